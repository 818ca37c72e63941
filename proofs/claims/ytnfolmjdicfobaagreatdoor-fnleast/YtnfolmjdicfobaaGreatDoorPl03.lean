/-
  PLAIN WORDS on a block of eight numbers (a rule). No Go text is walked here.
  Conditions: each fact bears its own.
  PLAIN WORDS on slices of rules that are new, as rows of cells. No Go text is walked here.
  Conditions: each fact bears its own.
  CONTRACTS of the draws of the verifier's model: spec.l1Source, spec.l1Next, spec.l1Pick, spec.l1Draw, spec.l1Bent.
  Conditions: each contract bears its own.
  CONTRACTS of the draws of rules: spec.l2DrawRole, spec.l2DrawRule.
  Conditions: each contract bears its own.
-/
import Derived.Test.YtnfolmjdicfobaaGreatDoorPl02
import Derived.Test.YtnfolmjdicfobaaGreatDoorPl01
import Derived.Deep.AppendLies
import Derived.WalkSmall
import Derived.BigQuiet
import Derived.Deep.QuietTactic
import Derived.Laws.BitsAllLaws
import Derived.Deep.RegionHeld3
import Derived.OpenShut
import Derived.Deep.DeepCutAuto
import Derived.Deep.CutBlock
namespace Go.Proofs.YtnfolmjdicfobaaGreatDoor
open Go.RowKit
set_option linter.unusedVariables false
set_option linter.unusedSimpArgs false

/-- The result's eight cells, as they were made. -/
def ResAt (w : World) (R : Nat) : Prop := w.cell? ⟨R, 0, none⟩ = some (.int .i64 0) ∧ w.cell? ⟨R, 1, none⟩ = some (.int .i64 0) ∧ w.cell? ⟨R, 2, none⟩ = some (.int .i64 0) ∧ w.cell? ⟨R, 3, none⟩ = some (.int .i64 0) ∧ w.cell? ⟨R, 4, none⟩ = some (.int .i64 0) ∧ w.cell? ⟨R, 5, none⟩ = some (.int .i64 0) ∧ w.cell? ⟨R, 6, none⟩ = some (.int .i64 0) ∧ w.cell? ⟨R, 7, none⟩ = some (.int .i64 0) ∧ w.frozen? ⟨R, 0, none⟩ = false ∧ w.frozen? ⟨R, 1, none⟩ = false ∧ w.frozen? ⟨R, 2, none⟩ = false ∧ w.frozen? ⟨R, 3, none⟩ = false ∧ w.frozen? ⟨R, 4, none⟩ = false ∧ w.frozen? ⟨R, 5, none⟩ = false ∧ w.frozen? ⟨R, 6, none⟩ = false ∧ w.frozen? ⟨R, 7, none⟩ = false

theorem ResAt.below {w w' : World} {R : Nat} (h : ResAt w R) (hb : Below w.heap.size w w') : ResAt w' R := by
  have key : ∀ (g o : Nat) (v : Value), w.cell? ⟨g, o, none⟩ = some v → w'.cell? ⟨g, o, none⟩ = some v := fun g o v e => (hb.cell (p := ⟨g, o, none⟩) (World.block_lt_of_cell? w ⟨g, o, none⟩ e)).trans e
  obtain ⟨c0, c1, c2, c3, c4, c5, c6, c7, f0, f1, f2, f3, f4, f5, f6, f7⟩ := h
  have hR := World.block_lt_of_cell? w ⟨R, 0, none⟩ c0
  have kf : ∀ o, w.frozen? ⟨R, o, none⟩ = false → w'.frozen? ⟨R, o, none⟩ = false := fun o e => (hb.frozen (p := ⟨R, o, none⟩) hR).trans e
  exact ⟨key _ _ _ c0, key _ _ _ c1, key _ _ _ c2, key _ _ _ c3, key _ _ _ c4, key _ _ _ c5, key _ _ _ c6, key _ _ _ c7, kf _ f0, kf _ f1, kf _ f2, kf _ f3, kf _ f4, kf _ f5, kf _ f6, kf _ f7⟩

theorem ResAt.new (w : World) (t : TypeId) : ResAt (w.alloc (.cells #[.int .i64 0, .int .i64 0, .int .i64 0, .int .i64 0, .int .i64 0, .int .i64 0, .int .i64 0, .int .i64 0] t)) w.heap.size := by
  simp [ResAt, go_sem]

/-- A block of eight numbers that may be written. -/
def BlkAt (w : World) (q : Nat) (x0 x1 x2 x3 x4 x5 x6 x7 : Int) : Prop := w.cell? ⟨q, 0, none⟩ = some (.int .i64 x0) ∧ w.cell? ⟨q, 1, none⟩ = some (.int .i64 x1) ∧ w.cell? ⟨q, 2, none⟩ = some (.int .i64 x2) ∧ w.cell? ⟨q, 3, none⟩ = some (.int .i64 x3) ∧ w.cell? ⟨q, 4, none⟩ = some (.int .i64 x4) ∧ w.cell? ⟨q, 5, none⟩ = some (.int .i64 x5) ∧ w.cell? ⟨q, 6, none⟩ = some (.int .i64 x6) ∧ w.cell? ⟨q, 7, none⟩ = some (.int .i64 x7) ∧ w.frozen? ⟨q, 0, none⟩ = false ∧ w.frozen? ⟨q, 1, none⟩ = false ∧ w.frozen? ⟨q, 2, none⟩ = false ∧ w.frozen? ⟨q, 3, none⟩ = false ∧ w.frozen? ⟨q, 4, none⟩ = false ∧ w.frozen? ⟨q, 5, none⟩ = false ∧ w.frozen? ⟨q, 6, none⟩ = false ∧ w.frozen? ⟨q, 7, none⟩ = false

theorem BlkAt.below {w w' : World} {q : Nat} {x0 x1 x2 x3 x4 x5 x6 x7 : Int} (h : BlkAt w q x0 x1 x2 x3 x4 x5 x6 x7) (hb : Below w.heap.size w w') : BlkAt w' q x0 x1 x2 x3 x4 x5 x6 x7 := by
  have key : ∀ (g o : Nat) (v : Value), w.cell? ⟨g, o, none⟩ = some v → w'.cell? ⟨g, o, none⟩ = some v := fun g o v e => (hb.cell (p := ⟨g, o, none⟩) (World.block_lt_of_cell? w ⟨g, o, none⟩ e)).trans e
  obtain ⟨c0, c1, c2, c3, c4, c5, c6, c7, f0, f1, f2, f3, f4, f5, f6, f7⟩ := h
  have hR := World.block_lt_of_cell? w ⟨q, 0, none⟩ c0
  have kf : ∀ o, w.frozen? ⟨q, o, none⟩ = false → w'.frozen? ⟨q, o, none⟩ = false := fun o e => (hb.frozen (p := ⟨q, o, none⟩) hR).trans e
  exact ⟨key _ _ _ c0, key _ _ _ c1, key _ _ _ c2, key _ _ _ c3, key _ _ _ c4, key _ _ _ c5, key _ _ _ c6, key _ _ _ c7, kf _ f0, kf _ f1, kf _ f2, kf _ f3, kf _ f4, kf _ f5, kf _ f6, kf _ f7⟩

theorem BlkAt.new (w : World) (x0 x1 x2 x3 x4 x5 x6 x7 : Int) (t : TypeId) : BlkAt (w.alloc (.cells #[.int .i64 x0, .int .i64 x1, .int .i64 x2, .int .i64 x3, .int .i64 x4, .int .i64 x5, .int .i64 x6, .int .i64 x7] t)) w.heap.size x0 x1 x2 x3 x4 x5 x6 x7 := by
  simp [BlkAt, go_sem]

theorem BlkAt.rule {w : World} {q : Nat} {x : RuleI} (h : BlkAt w q x.k x.ho x.hn x.w x.oo x.on x.to x.tn) : RuleAt w q 0 x := by
  obtain ⟨h0, h1, h2, h3, h4, h5, h6, h7, _⟩ := h
  exact ⟨h0, h1, h2, h3, h4, h5, h6, h7⟩

end Go.Proofs.YtnfolmjdicfobaaGreatDoor

namespace Go.Proofs.YtnfolmjdicfobaaGreatDoor
open Go.RowKit
set_option linter.unusedVariables false
set_option linter.unusedSimpArgs false

def row8 (p : RuleI) : List Value := [.int .i64 p.k, .int .i64 p.ho, .int .i64 p.hn, .int .i64 p.w, .int .i64 p.oo, .int .i64 p.on, .int .i64 p.to, .int .i64 p.tn]

def flatR : List RuleI → List Value
  | [] => []
  | p :: ps => .int .i64 p.k :: .int .i64 p.ho :: .int .i64 p.hn :: .int .i64 p.w :: .int .i64 p.oo :: .int .i64 p.on :: .int .i64 p.to :: .int .i64 p.tn :: flatR ps

theorem flatR_append (a b : List RuleI) : flatR (a ++ b) = flatR a ++ flatR b := by
  induction a with
  | nil => rfl
  | cons p ps ih => simp [flatR, ih]

theorem flatR_one1 (p : RuleI) : flatR [p] = row8 p := rfl

theorem flatR_len (a : List RuleI) : (flatR a).length = a.length * 8 := by
  induction a with
  | nil => rfl
  | cons p ps ih => simp [flatR, ih]; omega

theorem flatR_at : ∀ (a : List RuleI) (k : Nat) (p : RuleI), a[k]? = some p → ∀ j u, (row8 p)[j]? = some u → (flatR a)[k * 8 + j]? = some u
  | [], _, _, h => by simp at h
  | q :: qs, 0, p, h => by
    simp at h
    subst h
    intro j u hj
    rw [Nat.zero_mul, Nat.zero_add]
    have hl : j < 8 := by
      by_cases c : j < 8
      · exact c
      · rw [List.getElem?_eq_none (by simp [row8]; omega)] at hj; cases hj
    have e : flatR (q :: qs) = row8 q ++ flatR qs := rfl
    rw [e, List.getElem?_append_left (by simpa [row8] using hl)]
    exact hj
  | q :: qs, k + 1, p, h => by
    intro j u hj
    have := flatR_at qs k p (by simpa using h) j u hj
    have e : flatR (q :: qs) = row8 q ++ flatR qs := rfl
    have hl8 : (row8 q).length = 8 := rfl
    rw [e, List.getElem?_append_right (by rw [hl8]; omega), hl8, show (k + 1) * 8 + j - 8 = k * 8 + j by omega]
    exact this

theorem flatR_cells (a : List RuleI) : ∀ u ∈ flatR a, u.oneCell' = true := by
  induction a with
  | nil => simp [flatR]
  | cons p ps ih =>
    intro u hu
    simp only [flatR, List.mem_cons] at hu
    rcases hu with rfl | rfl | rfl | rfl | rfl | rfl | rfl | rfl | hu
    all_goals first | rfl | exact ih _ hu

/-- A slice of rules that is new since B. -/
def Own8 (w : World) (B : Nat) (v : Value) (zs : List RuleI) : Prop := w.ownsRow B 81 8 v zs.length (flatR zs)

theorem Own8.shape {w : World} {B : Nat} {v : Value} {zs : List RuleI} (h : Own8 w B v zs) (hv : v ≠ .slice none 0 0) : ∃ g cap, v = .slice (some ⟨g, 0, none⟩) zs.length cap := by
  have h0 : w.ownsRow B 81 8 v zs.length (flatR zs) := h
  rcases h0.2 with ⟨h', _⟩ | ⟨g, cap, cur, h', _⟩
  · exact absurd h' hv
  · exact ⟨g, cap, h'⟩

theorem Own8.cells {w : World} {B g n cap : Nat} {zs : List RuleI} (hn : zs.length = n) (h : Own8 w B (.slice (some ⟨g, 0, none⟩) n cap) zs) : ∀ j u, (flatR zs)[j]? = some u → w.cell? ⟨g, j, none⟩ = some u := by
  subst hn
  have h0 : w.ownsRow B 81 8 (.slice (some ⟨g, 0, none⟩) zs.length cap) zs.length (flatR zs) := h
  intro j u hj
  have hl : j < zs.length * 8 := by
    by_cases c : j < zs.length * 8
    · exact c
    · rw [List.getElem?_eq_none (by rw [flatR_len]; omega)] at hj; cases hj
  exact (h0.cellAt j hl).trans hj

theorem Own8.read {w : World} {B g n cap : Nat} {zs : List RuleI} (hn : zs.length = n) (h : Own8 w B (.slice (some ⟨g, 0, none⟩) n cap) zs) : RulesIn w (some ⟨g, 0, none⟩) n zs := by
  have hc := h.cells hn
  refine ⟨hn, fun _ => ⟨g, 0, rfl, fun k x hx => ?_⟩⟩
  rw [Nat.zero_add]
  have f := flatR_at zs k x hx
  exact ⟨hc _ _ (f 0 _ rfl), hc _ _ (f 1 _ rfl), hc _ _ (f 2 _ rfl), hc _ _ (f 3 _ rfl), hc _ _ (f 4 _ rfl), hc _ _ (f 5 _ rfl), hc _ _ (f 6 _ rfl), hc _ _ (f 7 _ rfl)⟩

theorem Own8.below {w w' : World} {B : Nat} {v : Value} {zs : List RuleI} (h : Own8 w B v zs) (hb : Below w.heap.size w w') : Own8 w' B v zs :=
  World.ownsRow.kept (row := none) h ⟨hb.os, hb.tape, hb.output, hb.size, fun k hk _ => hb.block k hk⟩ (by cases v.ownBlock <;> simp)

theorem Own8.grown {w w' : World} {B g n cap q : Nat} {zs : List RuleI} (h : Own8 w B (.slice (some ⟨g, 0, none⟩) n cap) zs) (hg : w.grownBy w' (some q)) (hne : g ≠ q) : Own8 w' B (.slice (some ⟨g, 0, none⟩) n cap) zs :=
  World.ownsRow.kept (row := some q) h hg (.inr (by simp [Value.ownBlock]; exact hne))

theorem own8_lower {w : World} {B B' : Nat} {v : Value} {zs : List RuleI} (h : Own8 w B v zs) (hb : B' ≤ B) : Own8 w B' v zs := by
  have h0 : w.ownsRow B 81 8 v zs.length (flatR zs) := h
  refine ⟨h0.1, ?_⟩
  rcases h0.2 with h' | ⟨g, cap, cur, e, hg, rest⟩
  · exact .inl h'
  · exact .inr ⟨g, cap, cur, e, Nat.le_trans hb hg, rest⟩

/-- A rule's eight cells in a new block. -/
theorem cell_new8 (W : World) (x : RuleI) (T : TypeId) : ∀ j u, (row8 x)[j]? = some u → (W.alloc (.cells #[.int .i64 x.k, .int .i64 x.ho, .int .i64 x.hn, .int .i64 x.w, .int .i64 x.oo, .int .i64 x.on, .int .i64 x.to, .int .i64 x.tn] T)).cell? ((⟨W.heap.size, 0, none⟩ : Addr).add j) = some u := by
  intro j u hj
  match j, hj with
  | 0, hj => simp [row8] at hj; subst hj; simp [Addr.add]
  | 1, hj => simp [row8] at hj; subst hj; simp [Addr.add]
  | 2, hj => simp [row8] at hj; subst hj; simp [Addr.add]
  | 3, hj => simp [row8] at hj; subst hj; simp [Addr.add]
  | 4, hj => simp [row8] at hj; subst hj; simp [Addr.add]
  | 5, hj => simp [row8] at hj; subst hj; simp [Addr.add]
  | 6, hj => simp [row8] at hj; subst hj; simp [Addr.add]
  | 7, hj => simp [row8] at hj; subst hj; simp [Addr.add]
  | j + 8, hj => simp [row8] at hj

end Go.Proofs.YtnfolmjdicfobaaGreatDoor

namespace Go.Proofs.YtnfolmjdicfobaaGreatDoor
open Go.RowKit
set_option linter.unusedVariables false

/-- The bytes of a code: each can be read. -/
def CodeIn (w : World) (a : Option Addr) (len : Nat) (ys : List Int) : Prop :=
  ∀ k, k < len → ∃ b off, a = some ⟨b, off, none⟩ ∧ w.cell? ⟨b, off + k, none⟩ = some (.int .u8 (ys[k]?.getD 0)) ∧ 0 ≤ ys[k]?.getD 0 ∧ ys[k]?.getD 0 ≤ 255

/-- A source in block B: its code, and how many were drawn. -/
def SrcAt (w : World) (B : Nat) (a : Option Addr) (len cap at' : Nat) (ys : List Int) : Prop :=
  w.heap[B]? = some (.cells #[.slice a len cap, .int .i64 (at' : Int)] 110 (0, 0)) ∧ CodeIn w a len ys ∧ (∀ b off, a = some ⟨b, off, none⟩ → len = 0 ∨ b ≠ B)

theorem CodeIn.kept {w w' : World} {a : Option Addr} {len : Nat} {ys : List Int} {row : Option Nat} (h : CodeIn w a len ys) (hg : w.grownBy w' row) (hne : ∀ b off, a = some ⟨b, off, none⟩ → len = 0 ∨ some b ≠ row) : CodeIn w' a len ys := by
  intro k hk
  obtain ⟨b, off, e, hc, h0, h1⟩ := h k hk
  rcases hne b off e with h' | h'
  · omega
  · exact ⟨b, off, e, hg.cell hc h', h0, h1⟩

theorem SrcAt.kept {w w' : World} {B : Nat} {a : Option Addr} {len cap at' : Nat} {ys : List Int} {row : Option Nat} (h : SrcAt w B a len cap at' ys) (hg : w.grownBy w' row) (hB : some B ≠ row) (hne : ∀ b off, a = some ⟨b, off, none⟩ → len = 0 ∨ some b ≠ row) : SrcAt w' B a len cap at' ys :=
  ⟨(hg.block B (Array.getElem?_eq_some_iff.1 h.1).1 hB).trans h.1, h.2.1.kept hg hne, h.2.2⟩

theorem SrcAt.below {w w' : World} {B : Nat} {a : Option Addr} {len cap at' : Nat} {ys : List Int} (h : SrcAt w B a len cap at' ys) (hb : Below w.heap.size w w') : SrcAt w' B a len cap at' ys :=
  h.kept (row := none) ⟨hb.os, hb.tape, hb.output, hb.size, fun k hk _ => hb.block k hk⟩ (by simp) (fun _ _ _ => .inr (by simp))

theorem SrcAt.lt {w : World} {B : Nat} {a : Option Addr} {len cap at' : Nat} {ys : List Int} (h : SrcAt w B a len cap at' ys) : B < w.heap.size := (Array.getElem?_eq_some_iff.1 h.1).1

set_option maxHeartbeats 400000 in
theorem source_c (a : Option Addr) (len cap : Nat) (w : World) :
    Calls Tryz.prog 29 #[.slice a len cap] w fun e w' => e = .returned (.pointer (some ⟨w.heap.size, 0, none⟩)) ∧ w.alloc (.cells #[.slice a len cap, .int .i64 0] 110) = w' := by
  go_enter Tryz.func29, Tryz.ntmps29
  go_wp2
  go_ret
  exact ⟨rfl, rfl⟩

theorem SrcAt.drewN {w : World} {B : Nat} {a : Option Addr} {len cap at' : Nat} {ys : List Int} (h : SrcAt w B a len cap at' ys) (m : Nat) : SrcAt (w.drewN m) B a len cap at' ys := ⟨h.1, h.2.1, h.2.2⟩
theorem grown_drewN' {w w' : World} {row : Option Nat} (h : w.grownBy w' row) (m : Nat) : w.grownBy (w'.drewN m) row := ⟨h.os, h.tape, h.output, h.size, h.block⟩

theorem src_step {w : World} {B : Nat} {a : Option Addr} {len cap at' : Nat} {ys : List Int} (h : SrcAt w B a len cap at' ys) :
    SrcAt (w.setCell ⟨B, 1, none⟩ (.int .i64 ((at' : Int) + 1))) B a len cap (at' + 1) ys ∧ w.grownBy (w.setCell ⟨B, 1, none⟩ (.int .i64 ((at' : Int) + 1))) (some B) := by
  have hg : w.grownBy (w.setCell ⟨B, 1, none⟩ (.int .i64 ((at' : Int) + 1))) (some B) := ⟨rfl, rfl, rfl, by simp [World.setCell], fun k _ hk => Below.heap_setCell _ _ _ _ (fun e => hk (by rw [e]))⟩
  refine ⟨⟨?_, h.2.1.kept hg (fun b off e => (h.2.2 b off e).imp id (fun hne => by simpa using hne)), h.2.2⟩, hg⟩
  rw [heap_setCell_same w B 1 _ _ _ h.1]
  simp

set_option maxHeartbeats 1000000 in
theorem next_c (w : World) (B : Nat) (a : Option Addr) (len cap at' : Nat) (ys : List Int) (n : Int) (h : SrcAt w B a len cap at' ys) (hl : len ≤ 1048576) (hat : at' ≤ 1000) (n1 : 1 ≤ n) (n2 : n ≤ 1048576) :
    Calls Tryz.prog 35 #[.pointer (some ⟨B, 0, none⟩), .int .i64 n] w fun e w' => ∃ v : Int, 0 ≤ v ∧ v < n ∧ e = .returned (.int .i64 v) ∧ SrcAt w' B a len cap (at' + 1) ys ∧ w.grownBy w' (some B) := by
  have hc0 : w.cell? ⟨B, 0, none⟩ = some (.slice a len cap) := by simp [World.cell?, h.1]
  have hc1 : w.cell? ⟨B, 1, none⟩ = some (.int .i64 (at' : Int)) := by simp [World.cell?, h.1]
  have hf1 : w.frozen? ⟨B, 1, none⟩ = false := by simp [World.frozen?, h.1]
  have hat' : (at' : Int) ≤ 1000 := by omega
  have hl' : (len : Int) ≤ 1048576 := by omega
  have HH : Hid (SrcAt w B a len cap at' ys) := h
  clear h
  have hst := src_step HH.out
  have HST : Hid (SrcAt (w.setCell ⟨B, 1, none⟩ (.int .i64 ((at' : Int) + 1))) B a len cap (at' + 1) ys ∧ w.grownBy (w.setCell ⟨B, 1, none⟩ (.int .i64 ((at' : Int) + 1))) (some B)) := hst
  clear hst
  by_cases h0 : len = 0
  · subst h0
    go_enter Tryz.func35, Tryz.ntmps35
    go_wp2
    go_ret
    exact ⟨_, Int.emod_nonneg _ (by omega), Int.emod_lt_of_pos _ (by omega), rfl, HST.out⟩
  · have hk0 : ((len : Int) == 0) = false := by simp; omega
    obtain ⟨j, hj, hjl⟩ : ∃ j : Nat, (at' : Int) % (len : Int) = (j : Int) ∧ j < len := ⟨at' % len, by simp, Nat.mod_lt _ (by omega)⟩
    obtain ⟨j2, hj2, hj2l⟩ : ∃ j : Nat, ((at' : Int) + 1) % (len : Int) = (j : Int) ∧ j < len := ⟨(at' + 1) % len, by simp, Nat.mod_lt _ (by omega)⟩
    obtain ⟨q, hq, hql⟩ : ∃ q : Nat, (at' : Int) / (len : Int) = (q : Int) ∧ q ≤ 1000 := ⟨at' / len, by simp, Nat.le_trans (Nat.div_le_self _ _) hat⟩
    obtain ⟨b, off, ha, hcj, y0, y1⟩ := HST.out.1.2.1 j hjl
    obtain ⟨b2, off2, ha2, hcj2, z0, z1⟩ := HST.out.1.2.1 j2 hj2l
    have hbb : b2 = b ∧ off2 = off := by rw [ha] at ha2; simp at ha2; exact ⟨ha2.1.symm, ha2.2.symm⟩
    obtain ⟨rfl, rfl⟩ := hbb
    obtain ⟨y, hy⟩ : ∃ y : Int, y = ys[j]?.getD 0 := ⟨_, rfl⟩
    obtain ⟨z, hz⟩ : ∃ z : Int, z = ys[j2]?.getD 0 := ⟨_, rfl⟩
    rw [← hy] at hcj y0 y1
    rw [← hz] at hcj2 z0 z1
    subst ha
    clear hy hz ha2
    have hjl' : (j : Int) < (len : Int) := by omega
    have hj2l' : (j2 : Int) < (len : Int) := by omega
    have hql' : (q : Int) ≤ 1000 := by omega
    go_enter Tryz.func35, Tryz.ntmps35
    go_wp2
    go_quiet (fail)
    go_wp2
    · go_quiet (fail)
      go_wp2
      go_ret
      exact ⟨_, Int.emod_nonneg _ (by omega), Int.emod_lt_of_pos _ (by omega), rfl, HST.out.1.drewN _, grown_drewN' HST.out.2 _⟩
    · go_ret
      exact ⟨_, Int.emod_nonneg _ (by omega), Int.emod_lt_of_pos _ (by omega), rfl, HST.out.1.drewN _, grown_drewN' HST.out.2 _⟩

/-- The world behind a draw: a source has gone on, older blocks but its own are as they were. -/
def Drawn (w w' : World) (B : Nat) (a : Option Addr) (len cap : Nat) (k k' : Nat) (ys : List Int) : Prop := SrcAt w' B a len cap k' ys ∧ w.grownBy w' (some B)

set_option maxHeartbeats 400000 in
theorem pick_c (w : World) (B : Nat) (a : Option Addr) (len cap at' : Nat) (ys : List Int) (h : SrcAt w B a len cap at' ys) (hl : len ≤ 1048576) (hat : at' ≤ 1000) (g n c : Nat) (xs : List Int) (hxs : xs.length = n) (hn : 1 ≤ n) (hn2 : n ≤ 100) (hgB : g ≠ B)
    (hc : ∀ k, k < n → w.cell? ⟨g, k, none⟩ = some (.int .i64 (xs[k]?.getD 0))) :
    Calls Tryz.prog 31 #[.pointer (some ⟨B, 0, none⟩), .slice (some ⟨g, 0, none⟩) n c] w fun e w' => ∃ k : Nat, k < n ∧ e = .returned (.int .i64 (xs[k]?.getD 0)) ∧ SrcAt w' B a len cap (at' + 1) ys ∧ w.grownBy w' (some B) := by
  have HH : Hid (SrcAt w B a len cap at' ys) := h
  have HC : Hid (∀ k, k < n → w.cell? ⟨g, k, none⟩ = some (.int .i64 (xs[k]?.getD 0))) := hc
  clear h hc hxs
  go_enter Tryz.func31, Tryz.ntmps31
  go_wp2_with fail
  refine (next_c w B a len cap at' ys (n : Int) HH.out hl hat (by omega) (by omega)).mono ?_
  rintro e w1 ⟨v, v0, v1, rfl, hS, hG⟩
  obtain ⟨k, rfl⟩ := Int.eq_ofNat_of_zero_le v0
  have hk : k < n := by omega
  have hck := hG.cell (a := ⟨g, k, none⟩) (HC.out k hk) (by simpa using hgB)
  have hk' : (k : Int) < (n : Int) := by omega
  go_wp2
  go_ret
  exact ⟨k, hk, rfl, hS, hG⟩

theorem and_small : ∀ x : Fin 256, ∀ y : Fin 256, (y.val = 7 ∨ y.val = 15 ∨ y.val = 255) → 0 ≤ bits .and .i64 ((x.val : Nat) : Int) ((y.val : Nat) : Int) ∧ bits .and .i64 ((x.val : Nat) : Int) ((y.val : Nat) : Int) ≤ 255 := by
  have h : ∀ x : Fin 256, ∀ y : Fin 3, 0 ≤ bits .and .i64 ((x.val : Nat) : Int) (([7, 15, 255][y.val]?.getD 0 : Nat) : Int) ∧ bits .and .i64 ((x.val : Nat) : Int) (([7, 15, 255][y.val]?.getD 0 : Nat) : Int) ≤ 255 := by decide +kernel
  intro x y hy
  rcases hy with e | e | e
  · rw [e]; exact h x 0
  · rw [e]; exact h x 1
  · rw [e]; exact h x 2

theorem three_at (x y z : Int) (k : Nat) (hk : k < 3) : [x, y, z][k]?.getD 0 = x ∨ [x, y, z][k]?.getD 0 = y ∨ [x, y, z][k]?.getD 0 = z := by
  match k, hk with
  | 0, _ => exact .inl rfl
  | 1, _ => exact .inr (.inl rfl)
  | 2, _ => exact .inr (.inr rfl)

theorem grown_alloc (w : World) (o : Obj) : w.grownBy (w.alloc o) none := ⟨rfl, rfl, rfl, by simp, fun k hk _ => Below.heap_alloc w o k hk⟩
theorem grown_trans {a b c : World} {row : Option Nat} (h : a.grownBy b row) (k : b.grownBy c row) : a.grownBy c row :=
  ⟨k.os.trans h.os, k.tape.trans h.tape, k.output.trans h.output, Nat.le_trans h.size k.size, fun q hq hne => (k.block q (Nat.lt_of_lt_of_le hq h.size) hne).trans (h.block q hq hne)⟩
theorem grown_none {a b : World} (h : a.grownBy b none) (row : Option Nat) : a.grownBy b row := ⟨h.os, h.tape, h.output, h.size, fun q hq _ => h.block q hq (by simp)⟩

set_option maxHeartbeats 400000 in
theorem draw_c (w : World) (B : Nat) (a : Option Addr) (len cap at' : Nat) (ys : List Int) (h : SrcAt w B a len cap at' ys) (hl : len ≤ 1048576) (hat : at' ≤ 900) :
    Calls Tryz.prog 75 #[.pointer (some ⟨B, 0, none⟩)] w fun e w' => ∃ v : Int, 0 ≤ v ∧ v ≤ 255 ∧ e = .returned (.int .i64 v) ∧ SrcAt w' B a len cap (at' + 2) ys ∧ w.grownBy w' (some B) := by
  have HH : Hid (SrcAt w B a len cap at' ys) := h
  clear h
  go_enter Tryz.func75, Tryz.ntmps75
  go_wp2_with fail
  refine (next_c w B a len cap at' ys 256 HH.out hl (by omega) (by omega) (by omega)).mono ?_
  rintro e w1 ⟨v, v0, v1, rfl, hS, hG⟩
  have HS : Hid (SrcAt (w1.alloc (.cells #[.int .i64 7, .int .i64 15, .int .i64 255] 2)) B a len cap (at' + 1) ys) := hS.below ((Below.refl _ _).alloc (Nat.le_refl _) _)
  have hBl := hS.lt
  have HG : Hid (w.grownBy w1 (some B)) := hG
  clear hS hG HH
  go_wp2_with fail
  refine (pick_c _ B a len cap (at' + 1) ys HS.out hl (by omega) w1.heap.size 3 3 [7, 15, 255] rfl (by omega) (by omega) (by omega) (fun k hk => by
    match k, hk with
    | 0, _ => simp
    | 1, _ => simp
    | 2, _ => simp)).mono ?_
  rintro e w2 ⟨k, hk, rfl, hS2, hG2⟩
  obtain ⟨m, hm⟩ : ∃ m : Int, m = ([7, 15, 255] : List Int)[k]?.getD 0 := ⟨_, rfl⟩
  rw [← hm]
  have hbd : 0 ≤ bits .and .i64 v m ∧ bits .and .i64 v m ≤ 255 := by
    obtain ⟨x, rfl⟩ := Int.eq_ofNat_of_zero_le v0
    rcases three_at 7 15 255 k hk with e | e | e <;> rw [hm, e]
    · exact and_small ⟨x, by omega⟩ 7 (.inl rfl)
    · exact and_small ⟨x, by omega⟩ 15 (.inr (.inl rfl))
    · exact and_small ⟨x, by omega⟩ 255 (.inr (.inr rfl))
  have HBD : Hid (0 ≤ bits .and .i64 v m ∧ bits .and .i64 v m ≤ 255) := hbd
  clear hbd hm
  go_wp2
  go_ret
  exact ⟨_, HBD.out.1, HBD.out.2, rfl, hS2, grown_trans HG.out (grown_trans (grown_none (grown_alloc _ _) _) hG2)⟩

set_option maxHeartbeats 400000 in
theorem bent_c (w : World) (B : Nat) (a : Option Addr) (len cap at' : Nat) (ys : List Int) (h : SrcAt w B a len cap at' ys) (hl : len ≤ 1048576) (hat : at' ≤ 800) :
    Calls Tryz.prog 36 #[.pointer (some ⟨B, 0, none⟩)] w fun e w' => ∃ v : Int, e = .returned (.int .i64 v) ∧ SrcAt w' B a len cap (at' + 7) ys ∧ w.grownBy w' (some B) := by
  have HH : Hid (SrcAt w B a len cap at' ys) := h
  clear h
  go_enter Tryz.func36, Tryz.ntmps36
  go_wp2_with fail
  refine (draw_c w B a len cap at' ys HH.out hl (by omega)).mono ?_
  rintro e w1 ⟨v1, _, _, rfl, hS1, hG1⟩
  have H1 : Hid (SrcAt w1 B a len cap (at' + 2) ys ∧ w.grownBy w1 (some B)) := ⟨hS1, hG1⟩
  clear hS1 hG1 HH
  go_wp2_with fail
  refine (draw_c w1 B a len cap (at' + 2) ys H1.out.1 hl (by omega)).mono ?_
  rintro e w2 ⟨v2, _, _, rfl, hS2, hG2⟩
  have H2 : Hid (SrcAt w2 B a len cap (at' + 4) ys ∧ w.grownBy w2 (some B)) := ⟨hS2, grown_trans H1.out.2 hG2⟩
  clear hS2 hG2 H1
  go_wp2_with fail
  refine (draw_c w2 B a len cap (at' + 4) ys H2.out.1 hl (by omega)).mono ?_
  rintro e w3 ⟨v3, _, _, rfl, hS3, hG3⟩
  have H3 : Hid (SrcAt (w3.alloc (.cells #[.int .i64 v1, .int .i64 v2, .int .i64 v3, .int .i64 255, .int .i64 256, .int .i64 (-1)] 2)) B a len cap (at' + 6) ys ∧ w.grownBy (w3.alloc (.cells #[.int .i64 v1, .int .i64 v2, .int .i64 v3, .int .i64 255, .int .i64 256, .int .i64 (-1)] 2)) (some B)) :=
    ⟨hS3.below ((Below.refl _ _).alloc (Nat.le_refl _) _), grown_trans (grown_trans H2.out.2 hG3) (grown_none (grown_alloc _ _) _)⟩
  have hBl := hS3.lt
  clear hS3 hG3 H2
  go_wp2_with fail
  refine (pick_c _ B a len cap (at' + 6) ys H3.out.1 hl (by omega) w3.heap.size 6 6 [v1, v2, v3, 255, 256, -1] rfl (by omega) (by omega) (by omega) (fun k hk => by
    match k, hk with
    | 0, _ => simp
    | 1, _ => simp
    | 2, _ => simp
    | 3, _ => simp
    | 4, _ => simp
    | 5, _ => simp)).mono ?_
  rintro e w4 ⟨k, hk, rfl, hS4, hG4⟩
  obtain ⟨m, hm⟩ : ∃ m : Int, m = ([v1, v2, v3, 255, 256, -1] : List Int)[k]?.getD 0 := ⟨_, rfl⟩
  rw [← hm]
  clear hm
  go_wp2
  go_ret
  exact ⟨_, rfl, hS4, grown_trans H3.out.2 hG4⟩

theorem src_new (w : World) (a : Option Addr) (len cap : Nat) (ys : List Int) (h : CodeIn w a len ys) : SrcAt (w.alloc (.cells #[.slice a len cap, .int .i64 0] 110)) w.heap.size a len cap 0 ys := by
  refine ⟨heap_alloc_new w _, h.kept (row := none) (grown_alloc w _) (fun _ _ _ => .inr (by simp)), fun b off e => ?_⟩
  by_cases h0 : len = 0
  · exact .inl h0
  · obtain ⟨b', off', e', hc, _⟩ := h 0 (by omega)
    rw [e] at e'
    simp at e'
    have := World.block_lt_of_cell? w ⟨b', off' + 0, none⟩ hc
    exact .inr (by have h1 := e'.1; simp at this; omega)

end Go.Proofs.YtnfolmjdicfobaaGreatDoor

namespace Go.Proofs.YtnfolmjdicfobaaGreatDoor
open Go.RowKit
set_option linter.unusedVariables false
set_option linter.unusedSimpArgs false

/-- A source, gone on since w: blocks of w but its own are as they were. -/
structure DS (w wx : World) (B : Nat) (a : Option Addr) (len cap k : Nat) (ys : List Int) : Prop where
  src : SrcAt wx B a len cap k ys
  gr : w.grownBy wx (some B)

theorem DS.start {w : World} {B : Nat} {a : Option Addr} {len cap k : Nat} {ys : List Int} (h : SrcAt w B a len cap k ys) : DS w w B a len cap k ys :=
  ⟨h, rfl, rfl, rfl, Nat.le_refl _, fun _ _ _ => rfl⟩

theorem DS.draw {w wx wy : World} {B : Nat} {a : Option Addr} {len cap k k' : Nat} {ys : List Int} (h : DS w wx B a len cap k ys) (hs : SrcAt wy B a len cap k' ys) (hg : wx.grownBy wy (some B)) : DS w wy B a len cap k' ys :=
  ⟨hs, grown_trans h.gr hg⟩

theorem DS.alloc {w wx : World} {B : Nat} {a : Option Addr} {len cap k : Nat} {ys : List Int} (h : DS w wx B a len cap k ys) (o : Obj) : DS w (wx.alloc o) B a len cap k ys :=
  ⟨h.src.below ((Below.refl _ _).alloc (Nat.le_refl _) _), grown_trans h.gr (grown_none (grown_alloc _ _) _)⟩

theorem DS.set {w wx : World} {B : Nat} {a : Option Addr} {len cap k : Nat} {ys : List Int} (h : DS w wx B a len cap k ys) {q : Nat} (hq : w.heap.size ≤ q) (hB : B < w.heap.size) (ha : ∀ b off, a = some ⟨b, off, none⟩ → len = 0 ∨ b < w.heap.size) (j : Nat) (v : Value) : DS w (wx.setCell ⟨q, j, none⟩ v) B a len cap k ys := by
  have hg : wx.grownBy (wx.setCell ⟨q, j, none⟩ v) (some q) := ⟨rfl, rfl, rfl, by simp [World.setCell], fun k _ hk => Below.heap_setCell _ _ _ _ (fun e => hk (by rw [e]))⟩
  refine ⟨h.src.kept hg (by simp; omega) (fun b off e => (ha b off e).imp id (fun hl => by simp; omega)), ⟨hg.os.trans h.gr.os, hg.tape.trans h.gr.tape, hg.output.trans h.gr.output, Nat.le_trans h.gr.size hg.size, fun i hi hne => ?_⟩⟩
  rw [hg.block i (Nat.lt_of_lt_of_le hi h.gr.size) (by simp; omega)]
  exact h.gr.block i hi hne

/-- The code lies below w (or is empty). -/
theorem SrcAt.code_lt {w : World} {B : Nat} {a : Option Addr} {len cap k : Nat} {ys : List Int} (h : SrcAt w B a len cap k ys) : ∀ b off, a = some ⟨b, off, none⟩ → len = 0 ∨ b < w.heap.size := by
  intro b off e
  by_cases h0 : len = 0
  · exact .inl h0
  · obtain ⟨b', off', e', hc, _⟩ := h.2.1 0 (by omega)
    rw [e] at e'
    simp at e'
    have := World.block_lt_of_cell? w ⟨b', off' + 0, none⟩ hc
    exact .inr (by have h1 := e'.1; simp at this; omega)

theorem BlkAt.grown {w w' : World} {q B : Nat} {x0 x1 x2 x3 x4 x5 x6 x7 : Int} (h : BlkAt w q x0 x1 x2 x3 x4 x5 x6 x7) (hg : w.grownBy w' (some B)) (hne : q ≠ B) : BlkAt w' q x0 x1 x2 x3 x4 x5 x6 x7 := by
  obtain ⟨c0, c1, c2, c3, c4, c5, c6, c7, f0, f1, f2, f3, f4, f5, f6, f7⟩ := h
  have hq := World.block_lt_of_cell? w ⟨q, 0, none⟩ c0
  have hb := hg.block q hq (by simpa using hne)
  have key : ∀ (o : Nat) (v : Value), w.cell? ⟨q, o, none⟩ = some v → w'.cell? ⟨q, o, none⟩ = some v := fun o v e => (World.cell?_of_block (a := ⟨q, o, none⟩) hb).trans e
  have kf : ∀ o, w.frozen? ⟨q, o, none⟩ = false → w'.frozen? ⟨q, o, none⟩ = false := fun o e => (World.frozen?_of_block (a := ⟨q, o, none⟩) hb).trans e
  exact ⟨key _ _ c0, key _ _ c1, key _ _ c2, key _ _ c3, key _ _ c4, key _ _ c5, key _ _ c6, key _ _ c7, kf _ f0, kf _ f1, kf _ f2, kf _ f3, kf _ f4, kf _ f5, kf _ f6, kf _ f7⟩

theorem ResAt.blk {w : World} {R : Nat} (h : ResAt w R) : BlkAt w R 0 0 0 0 0 0 0 0 := h

/-- What stands while a rule is drawn: its block, the result's block, the source. -/
structure DR (w wx : World) (q R B : Nat) (a : Option Addr) (len cap k : Nat) (ys : List Int) (x : RuleI) : Prop where
  blk : BlkAt wx q x.k x.ho x.hn x.w x.oo x.on x.to x.tn
  res : BlkAt wx R 0 0 0 0 0 0 0 0
  ds : DS w wx B a len cap k ys
  hq : q < wx.heap.size
  hR : R < wx.heap.size
  ne : q ≠ B ∧ R ≠ B ∧ R ≠ q ∧ w.heap.size ≤ R ∧ w.heap.size ≤ q ∧ B < w.heap.size
  code : ∀ b off, a = some ⟨b, off, none⟩ → len = 0 ∨ b < w.heap.size

theorem DR.draw {w wx wy : World} {q R B : Nat} {a : Option Addr} {len cap k k' : Nat} {ys : List Int} {x : RuleI} (h : DR w wx q R B a len cap k ys x) (hs : SrcAt wy B a len cap k' ys) (hg : wx.grownBy wy (some B)) : DR w wy q R B a len cap k' ys x :=
  ⟨h.blk.grown hg h.ne.1, h.res.grown hg h.ne.2.1, h.ds.draw hs hg, Nat.lt_of_lt_of_le h.hq hg.size, Nat.lt_of_lt_of_le h.hR hg.size, h.ne, h.code⟩

theorem DR.alloc {w wx : World} {q R B : Nat} {a : Option Addr} {len cap k : Nat} {ys : List Int} {x : RuleI} (h : DR w wx q R B a len cap k ys x) (o : Obj) : DR w (wx.alloc o) q R B a len cap k ys x :=
  ⟨h.blk.below ((Below.refl _ _).alloc (Nat.le_refl _) _), h.res.below ((Below.refl _ _).alloc (Nat.le_refl _) _), h.ds.alloc o, by have := h.hq; simp; omega, by have := h.hR; simp; omega, h.ne, h.code⟩

theorem DR.set {w wx : World} {q R B : Nat} {a : Option Addr} {len cap k : Nat} {ys : List Int} {x x' : RuleI} (h : DR w wx q R B a len cap k ys x) (j : Nat) (v : Int) (hb : BlkAt wx q x.k x.ho x.hn x.w x.oo x.on x.to x.tn → BlkAt (wx.setCell ⟨q, j, none⟩ (.int .i64 v)) q x'.k x'.ho x'.hn x'.w x'.oo x'.on x'.to x'.tn) : DR w (wx.setCell ⟨q, j, none⟩ (.int .i64 v)) q R B a len cap k ys x' := by
  obtain ⟨n1, n2, n3, n4, n5, n6⟩ := h.ne
  have key : ∀ (b o : Nat), b ≠ q → (wx.setCell ⟨q, j, none⟩ (.int .i64 v)).cell? ⟨b, o, none⟩ = wx.cell? ⟨b, o, none⟩ := fun b o hne => World.cell?_setCell_other wx ⟨q, j, none⟩ ⟨b, o, none⟩ (.int .i64 v) (fun e => hne (congrArg Addr.block e).symm)
  refine ⟨hb h.blk, ?_, h.ds.set n5 n6 h.code j _, by simp; exact h.hq, by simp; exact h.hR, h.ne, h.code⟩
  obtain ⟨r0, r1, r2, r3, r4, r5, r6, r7, e0, e1, e2, e3, e4, e5, e6, e7⟩ := h.res
  refine ⟨(key _ _ n3).trans r0, (key _ _ n3).trans r1, (key _ _ n3).trans r2, (key _ _ n3).trans r3, (key _ _ n3).trans r4, (key _ _ n3).trans r5, (key _ _ n3).trans r6, (key _ _ n3).trans r7, ?_, ?_, ?_, ?_, ?_, ?_, ?_, ?_⟩ <;> simp only [World.frozen?_setCell] <;> assumption

theorem DR.set0 {w wx : World} {q R B : Nat} {a : Option Addr} {len cap k : Nat} {ys : List Int} {x : RuleI} (h : DR w wx q R B a len cap k ys x) (v : Int) : DR w (wx.setCell ⟨q, 0, none⟩ (.int .i64 v)) q R B a len cap k ys ⟨v, x.ho, x.hn, x.w, x.oo, x.on, x.to, x.tn⟩ := by
  refine h.set 0 v ?_
  rintro ⟨q0, q1, q2, q3, q4, q5, q6, q7, f0, f1, f2, f3, f4, f5, f6, f7⟩
  exact ⟨by go_cell, by go_cell, by go_cell, by go_cell, by go_cell, by go_cell, by go_cell, by go_cell, by simp [go_sem, f0], by simp [go_sem, f1], by simp [go_sem, f2], by simp [go_sem, f3], by simp [go_sem, f4], by simp [go_sem, f5], by simp [go_sem, f6], by simp [go_sem, f7]⟩

theorem DR.set1 {w wx : World} {q R B : Nat} {a : Option Addr} {len cap k : Nat} {ys : List Int} {x : RuleI} (h : DR w wx q R B a len cap k ys x) (v : Int) : DR w (wx.setCell ⟨q, 1, none⟩ (.int .i64 v)) q R B a len cap k ys ⟨x.k, v, x.hn, x.w, x.oo, x.on, x.to, x.tn⟩ := by
  refine h.set 1 v ?_
  rintro ⟨q0, q1, q2, q3, q4, q5, q6, q7, f0, f1, f2, f3, f4, f5, f6, f7⟩
  exact ⟨by go_cell, by go_cell, by go_cell, by go_cell, by go_cell, by go_cell, by go_cell, by go_cell, by simp [go_sem, f0], by simp [go_sem, f1], by simp [go_sem, f2], by simp [go_sem, f3], by simp [go_sem, f4], by simp [go_sem, f5], by simp [go_sem, f6], by simp [go_sem, f7]⟩

theorem DR.set2 {w wx : World} {q R B : Nat} {a : Option Addr} {len cap k : Nat} {ys : List Int} {x : RuleI} (h : DR w wx q R B a len cap k ys x) (v : Int) : DR w (wx.setCell ⟨q, 2, none⟩ (.int .i64 v)) q R B a len cap k ys ⟨x.k, x.ho, v, x.w, x.oo, x.on, x.to, x.tn⟩ := by
  refine h.set 2 v ?_
  rintro ⟨q0, q1, q2, q3, q4, q5, q6, q7, f0, f1, f2, f3, f4, f5, f6, f7⟩
  exact ⟨by go_cell, by go_cell, by go_cell, by go_cell, by go_cell, by go_cell, by go_cell, by go_cell, by simp [go_sem, f0], by simp [go_sem, f1], by simp [go_sem, f2], by simp [go_sem, f3], by simp [go_sem, f4], by simp [go_sem, f5], by simp [go_sem, f6], by simp [go_sem, f7]⟩

theorem DR.set3 {w wx : World} {q R B : Nat} {a : Option Addr} {len cap k : Nat} {ys : List Int} {x : RuleI} (h : DR w wx q R B a len cap k ys x) (v : Int) : DR w (wx.setCell ⟨q, 3, none⟩ (.int .i64 v)) q R B a len cap k ys ⟨x.k, x.ho, x.hn, v, x.oo, x.on, x.to, x.tn⟩ := by
  refine h.set 3 v ?_
  rintro ⟨q0, q1, q2, q3, q4, q5, q6, q7, f0, f1, f2, f3, f4, f5, f6, f7⟩
  exact ⟨by go_cell, by go_cell, by go_cell, by go_cell, by go_cell, by go_cell, by go_cell, by go_cell, by simp [go_sem, f0], by simp [go_sem, f1], by simp [go_sem, f2], by simp [go_sem, f3], by simp [go_sem, f4], by simp [go_sem, f5], by simp [go_sem, f6], by simp [go_sem, f7]⟩

theorem DR.set4 {w wx : World} {q R B : Nat} {a : Option Addr} {len cap k : Nat} {ys : List Int} {x : RuleI} (h : DR w wx q R B a len cap k ys x) (v : Int) : DR w (wx.setCell ⟨q, 4, none⟩ (.int .i64 v)) q R B a len cap k ys ⟨x.k, x.ho, x.hn, x.w, v, x.on, x.to, x.tn⟩ := by
  refine h.set 4 v ?_
  rintro ⟨q0, q1, q2, q3, q4, q5, q6, q7, f0, f1, f2, f3, f4, f5, f6, f7⟩
  exact ⟨by go_cell, by go_cell, by go_cell, by go_cell, by go_cell, by go_cell, by go_cell, by go_cell, by simp [go_sem, f0], by simp [go_sem, f1], by simp [go_sem, f2], by simp [go_sem, f3], by simp [go_sem, f4], by simp [go_sem, f5], by simp [go_sem, f6], by simp [go_sem, f7]⟩

theorem DR.set5 {w wx : World} {q R B : Nat} {a : Option Addr} {len cap k : Nat} {ys : List Int} {x : RuleI} (h : DR w wx q R B a len cap k ys x) (v : Int) : DR w (wx.setCell ⟨q, 5, none⟩ (.int .i64 v)) q R B a len cap k ys ⟨x.k, x.ho, x.hn, x.w, x.oo, v, x.to, x.tn⟩ := by
  refine h.set 5 v ?_
  rintro ⟨q0, q1, q2, q3, q4, q5, q6, q7, f0, f1, f2, f3, f4, f5, f6, f7⟩
  exact ⟨by go_cell, by go_cell, by go_cell, by go_cell, by go_cell, by go_cell, by go_cell, by go_cell, by simp [go_sem, f0], by simp [go_sem, f1], by simp [go_sem, f2], by simp [go_sem, f3], by simp [go_sem, f4], by simp [go_sem, f5], by simp [go_sem, f6], by simp [go_sem, f7]⟩

theorem DR.set6 {w wx : World} {q R B : Nat} {a : Option Addr} {len cap k : Nat} {ys : List Int} {x : RuleI} (h : DR w wx q R B a len cap k ys x) (v : Int) : DR w (wx.setCell ⟨q, 6, none⟩ (.int .i64 v)) q R B a len cap k ys ⟨x.k, x.ho, x.hn, x.w, x.oo, x.on, v, x.tn⟩ := by
  refine h.set 6 v ?_
  rintro ⟨q0, q1, q2, q3, q4, q5, q6, q7, f0, f1, f2, f3, f4, f5, f6, f7⟩
  exact ⟨by go_cell, by go_cell, by go_cell, by go_cell, by go_cell, by go_cell, by go_cell, by go_cell, by simp [go_sem, f0], by simp [go_sem, f1], by simp [go_sem, f2], by simp [go_sem, f3], by simp [go_sem, f4], by simp [go_sem, f5], by simp [go_sem, f6], by simp [go_sem, f7]⟩

theorem DR.set7 {w wx : World} {q R B : Nat} {a : Option Addr} {len cap k : Nat} {ys : List Int} {x : RuleI} (h : DR w wx q R B a len cap k ys x) (v : Int) : DR w (wx.setCell ⟨q, 7, none⟩ (.int .i64 v)) q R B a len cap k ys ⟨x.k, x.ho, x.hn, x.w, x.oo, x.on, x.to, v⟩ := by
  refine h.set 7 v ?_
  rintro ⟨q0, q1, q2, q3, q4, q5, q6, q7, f0, f1, f2, f3, f4, f5, f6, f7⟩
  exact ⟨by go_cell, by go_cell, by go_cell, by go_cell, by go_cell, by go_cell, by go_cell, by go_cell, by simp [go_sem, f0], by simp [go_sem, f1], by simp [go_sem, f2], by simp [go_sem, f3], by simp [go_sem, f4], by simp [go_sem, f5], by simp [go_sem, f6], by simp [go_sem, f7]⟩

set_option maxHeartbeats 1000000 in
theorem drawRole_c (w : World) (B : Nat) (a : Option Addr) (len cap k : Nat) (ys : List Int) (h : SrcAt w B a len cap k ys) (hl : len ≤ 1048576) (hk : k ≤ 900) :
    Calls Tryz.prog 142 #[.pointer (some ⟨B, 0, none⟩)] w fun e w' => ∃ o n : Int, (1 ≤ o ∧ o ≤ 3 ∧ 1 ≤ n ∧ n ≤ 3) ∧ e = .returned (.agg #[.int .i64 o, .int .i64 n]) ∧ SrcAt w' B a len cap (k + 2) ys ∧ w.grownBy w' (some B) := by
  have hB := h.lt
  have hcode := h.code_lt
  have D0 : Hid (DS w (w.alloc (.cells #[.int .i64 0, .int .i64 0] 79)) B a len cap k ys) := (DS.start h).alloc _
  clear h
  have Z0 : Hid ((w.alloc (.cells #[.int .i64 0, .int .i64 0] 79)).heap[w.heap.size]? = some (.cells #[.int .i64 0, .int .i64 0] 79 (0, 0))) := heap_alloc_new w _
  go_enter Tryz.func142, Tryz.ntmps142
  go_wp2_with fail
  refine (next_c _ B a len cap k ys 3 D0.out.src hl (by omega) (by omega) (by omega)).mono ?_
  rintro e w1 ⟨v1, x0, x1, rfl, hS1, hG1⟩
  have D1 : Hid (DS w w1 B a len cap (k + 1) ys) := D0.out.draw hS1 hG1
  have Z1 : Hid (w1.heap[w.heap.size]? = some (.cells #[.int .i64 0, .int .i64 0] 79 (0, 0))) := (hG1.block _ (by simp) (by simp; omega)).trans Z0.out
  clear hS1 hG1 D0 Z0
  go_wp2_with fail
  refine (next_c _ B a len cap (k + 1) ys 3 D1.out.src hl (by omega) (by omega) (by omega)).mono ?_
  rintro e w2 ⟨v2, y0, y1, rfl, hS2, hG2⟩
  have D2 : Hid (DS w w2 B a len cap (k + 2) ys) := D1.out.draw hS2 hG2
  have Z2 : Hid (w2.heap[w.heap.size]? = some (.cells #[.int .i64 0, .int .i64 0] 79 (0, 0))) := (hG2.block _ (Array.getElem?_eq_some_iff.1 Z1.out).1 (by simp; omega)).trans Z1.out
  clear hS2 hG2 D1 Z1
  have c0 : w2.cell? ⟨w.heap.size, 0, none⟩ = some (.int .i64 0) := by simp [World.cell?, Z2.out]
  have c1 : w2.cell? ⟨w.heap.size, 1, none⟩ = some (.int .i64 0) := by simp [World.cell?, Z2.out]
  have f0 : w2.frozen? ⟨w.heap.size, 0, none⟩ = false := by simp [World.frozen?, Z2.out]
  have f1 : w2.frozen? ⟨w.heap.size, 1, none⟩ = false := by simp [World.frozen?, Z2.out]
  have hlt : w.heap.size < w2.heap.size := (Array.getElem?_eq_some_iff.1 Z2.out).1
  go_wp2
  refine bodyPost_ret (v := .agg #[.int .i64 (1 + v1), .int .i64 (1 + v2)]) (by simp [results, Tryz.results142, go_sem, c0, c1, hlt]) rfl ⟨_, _, ⟨by omega, by omega, by omega, by omega⟩, rfl, ?_⟩
  have D3 := (D2.out.set (Nat.le_refl _) hB hcode 0 (.int .i64 (1 + v1))).set (Nat.le_refl _) hB hcode 1 (.int .i64 (1 + v2))
  exact ⟨D3.src, D3.gr⟩

end Go.Proofs.YtnfolmjdicfobaaGreatDoor
