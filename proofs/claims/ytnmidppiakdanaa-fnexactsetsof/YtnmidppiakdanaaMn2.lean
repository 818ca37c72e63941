/-
  CONTRACTS: parts marked; results of sets compared, marked and held; what SetsOf's law keeps.
  Conditions: each contract bears its own.
-/
import Derived.Test.YtnmidppiakdanaaMn1
import Derived.Test.YtnmidppiakdanaaSg3
import Derived.Test.YtnmidppiakdanaaBx0
namespace Go.Proofs.Ytnmidppiakdanaa
open Go.RowKit
set_option linter.unusedVariables false
set_option linter.unusedSimpArgs false

theorem Room5.set {w : World} {g n : Nat} (h : Room5 w g n) (o : Nat) (v : Value) : Room5 (w.setCell ⟨g, o, none⟩ v) g n := by
  refine ⟨fun j hj => ?_, fun j => by simp only [World.frozen?_setCell]; exact h.2 j⟩
  obtain ⟨u, e⟩ := h.1 j hj
  by_cases q : j = o
  · subst q
    exact ⟨v, by simp [go_sem, e]⟩
  · exact ⟨u, by rw [World.cell?_setCell_other (h := fun e => q (by have := congrArg Addr.off e; simp at this; omega))]; exact e⟩

set_option maxHeartbeats 2000000 in
theorem markPartsR_c (g n cap : Nat) (k0 : Int) (w : World) (hn : n ≤ 1048576) (h0 : 0 ≤ k0) (h1 : k0 ≤ 100000000) (h : Room5 w g n) :
    Calls Try.prog 48 #[.slice (some ⟨g, 0, none⟩) n cap, .int .i64 k0] w fun e w' => e = .returned (.int .i64 (k0 + 5 * (n : Int))) ∧ w.grownBy w' (some g) := by
  have HO : Hid (Room5 w g n) := h
  clear h
  have hn' : (n : Int) ≤ 1048576 := by omega
  go_enter Try.func48, Try.ntmps48
  go_wp2
  go_loopw [1, 5] (fun q i wr => ∃ (j : Nat), j ≤ n ∧ i = .int .i64 (j : Int) ∧ q = .int .i64 (k0 + 5 * (j : Int)) ∧ Room5 wr g n ∧ w.grownBy wr (some g))
    (fun _ i _ => n - (intOf i).toNat)
  case atStart => exact ⟨0, Nat.zero_le _, rfl, by simp, HO.out, grown_refl _ _⟩
  case round =>
    obtain ⟨j, hj, rfl, rfl, hroom, hgr⟩ := hrel
    have HG : Hid (Room5 wr g n ∧ w.grownBy wr (some g)) := ⟨hroom, hgr⟩
    by_cases hlt : j < n
    · obtain ⟨v0, c0⟩ := hroom.1 (j * 5) (by omega)
      obtain ⟨v1, c1⟩ := hroom.1 (j * 5 + 1) (by omega)
      obtain ⟨v2, c2⟩ := hroom.1 (j * 5 + 2) (by omega)
      obtain ⟨v3, c3⟩ := hroom.1 (j * 5 + 3) (by omega)
      obtain ⟨v4, c4⟩ := hroom.1 (j * 5 + 4) (by omega)
      have f0 := hroom.2 (j * 5)
      have f1 := hroom.2 (j * 5 + 1)
      have f2 := hroom.2 (j * 5 + 2)
      have f3 := hroom.2 (j * 5 + 3)
      have f4 := hroom.2 (j * 5 + 4)
      clear hroom hgr
      have hlt' : (j : Int) < (n : Int) := by omega
      go_wp2
      refine ⟨⟨j + 1, by omega, by go_num, ?_, ?_, ?_⟩, by simp [intOf]; omega⟩
      · congr 1; omega
      · exact ((((HG.out.1.set _ _).set _ _).set _ _).set _ _).set _ _
      · exact grown_tr (grown_tr (grown_tr (grown_tr (grown_tr HG.out.2 (grown_set _ _ _ _)) (grown_set _ _ _ _)) (grown_set _ _ _ _)) (grown_set _ _ _ _)) (grown_set _ _ _ _)
    · have hjn : j = n := by omega
      subst hjn
      go_wp2
      go_ret
      exact ⟨rfl, hgr⟩

set_option maxHeartbeats 400000 in
theorem eqSets_same (c : Int) (a b : Option Addr) (n ca cb : Nat) (zs : List Int) (w : World) (hn : n ≤ 1048576) (ha : RowIn w a n zs) (hb : RowIn w b n zs) :
    Calls Try.prog 47 #[.agg #[.int .i64 c, .slice a n ca], .agg #[.int .i64 c, .slice b n cb]] w fun e w' => e = .returned (.bool true) ∧ Below w.heap.size w w' := by
  have B0 : Below w.heap.size w ((w.alloc (.cells #[.int .i64 c, .slice a n ca] 54)).alloc (.cells #[.int .i64 c, .slice b n cb] 54)) := ((Below.refl _ _).alloc (Nat.le_refl _) _).alloc (by simp) _
  have HA : Hid (RowIn ((w.alloc (.cells #[.int .i64 c, .slice a n ca] 54)).alloc (.cells #[.int .i64 c, .slice b n cb] 54)) a n zs) := ha.below B0
  have HB : Hid (RowIn ((w.alloc (.cells #[.int .i64 c, .slice a n ca] 54)).alloc (.cells #[.int .i64 c, .slice b n cb] 54)) b n zs) := hb.below B0
  have HB0 : Hid (Below w.heap.size w ((w.alloc (.cells #[.int .i64 c, .slice a n ca] 54)).alloc (.cells #[.int .i64 c, .slice b n cb] 54))) := B0
  clear ha hb B0
  go_enter Try.func47, Try.ntmps47
  go_wp2_with (go_at_call 94; refine (eqS_same _ _ n _ _ zs _ hn HA.out.2 HB.out.2).mono ?_; rintro e w1 ⟨rfl, hb1⟩)
  go_ret
  exact ⟨rfl, HB0.out.trans (hb1.mono (by simp; omega))⟩

set_option maxHeartbeats 400000 in
theorem markSets1 (c : Int) (b : Nat) (a : Option Addr) (n cap : Nat) (xs : List Value) (w : World) (hn : n ≤ 1048576) (hown : w.ownsRow b 2 1 (.slice a n cap) n xs) :
    Calls Try.prog 49 #[.agg #[.int .i64 c, .slice a n cap], .int .i64 1] w fun e w' => e = .returned (.int .i64 (1 + (n : Int))) ∧ w'.ownsRow b 2 1 (.slice a n cap) n ((marks 1 n).map (Value.int .i64)) ∧ w.grownBy w' (Value.slice a n cap).ownBlock := by
  have HO : Hid ((w.alloc (.cells #[.int .i64 c, .slice a n cap] 54)).ownsRow b 2 1 (.slice a n cap) n xs) := hown.alloc _
  clear hown
  go_enter Try.func49, Try.ntmps49
  go_wp2_with (go_at_call 96; refine (mark_c 1 b a n cap xs _ (by omega) hn HO.out).mono ?_; rintro e w1 ⟨rfl, hown1, hg1⟩)
  go_ret
  refine ⟨rfl, hown1, ⟨hg1.os, hg1.tape, hg1.output, ?_, fun q hq hne => ?_⟩⟩
  · have := hg1.size; simp at this; omega
  · exact (hg1.block q (by simp; omega) hne).trans (Below.heap_alloc _ _ _ hq)

set_option maxHeartbeats 400000 in
theorem heldSets1 (c : Int) (a : Option Addr) (n cap : Nat) (w : World) (hn : n ≤ 1048576) (hr : RowIn w a n (marks 1 n)) :
    Calls Try.prog 50 #[.agg #[.int .i64 c, .slice a n cap], .int .i64 1] w fun e w' => e = .returned (.int .i64 (1 + (n : Int))) ∧ Below w.heap.size w w' := by
  have HR : Hid (RowIn (w.alloc (.cells #[.int .i64 c, .slice a n cap] 54)) a n (marks 1 n)) := hr.below ((Below.refl _ _).alloc (Nat.le_refl _) _)
  clear hr
  have hkn : decide (((1 + n : Nat) : Int) < 0) = false := by simp; omega
  go_enter Try.func50, Try.ntmps50
  go_wp2_with (go_at_call 97; refine (held_c 1 a n cap _ (by omega) hn HR.out).mono ?_; rintro e w1 ⟨rfl, rfl⟩)
  go_ret
  exact ⟨rfl, (Below.refl _ _).alloc (Nat.le_refl _) _⟩

/-- What the law keeps: its arguments, and the first result in its box. -/
structure SQ (w : World) (a0 : Option Addr) (len : Nat) (zs : List RuleI) (b0 : Option Addr) (m : Nat) (gs : List PartI) (B1 : Nat) (c : Int) (a1 : Option Addr) (cap1 : Nat) (ys : List Int) (W : World) : Prop where
  bl : Below w.heap.size w W
  ru : RulesIn W a0 len zs
  gr : PartsIn W b0 m gs
  bx : Box2 W B1 (.int .i64 c) (.slice a1 ys.length cap1)
  vw : RowIn W a1 ys.length ys

theorem SQ.below {w : World} {a0 : Option Addr} {len : Nat} {zs : List RuleI} {b0 : Option Addr} {m : Nat} {gs : List PartI} {B1 : Nat} {c : Int} {a1 : Option Addr} {cap1 : Nat} {ys : List Int} {W W' : World} (h : SQ w a0 len zs b0 m gs B1 c a1 cap1 ys W) (hb : Below W.heap.size W W') : SQ w a0 len zs b0 m gs B1 c a1 cap1 ys W' :=
  ⟨h.bl.trans (hb.mono h.bl.size), h.ru.below hb, h.gr.below hb, h.bx.below hb, h.vw.below hb⟩

theorem SQ.grown {w : World} {a0 : Option Addr} {len : Nat} {zs : List RuleI} {b0 : Option Addr} {m : Nat} {gs : List PartI} {B1 : Nat} {c : Int} {a1 : Option Addr} {cap1 : Nat} {ys : List Int} {W W' : World} {row : Option Nat} (N : Nat) (h : SQ w a0 len zs b0 m gs B1 c a1 cap1 ys W) (hg : W.grownBy W' row)
    (hlr : ∀ b off, a0 = some ⟨b, off, none⟩ → len = 0 ∨ b < w.heap.size) (hlg : ∀ b off, b0 = some ⟨b, off, none⟩ → m = 0 ∨ b < w.heap.size)
    (hrow : ∀ q, row = some q → N ≤ q) (hN : w.heap.size ≤ N) (hB : B1 < N) (hV : ∀ g off, a1 = some ⟨g, off, none⟩ → ys.length = 0 ∨ g < N) : SQ w a0 len zs b0 m gs B1 c a1 cap1 ys W' := by
  refine ⟨h.bl.grown hg h.bl.size (fun q e => by have := hrow q e; omega), rulesIn_kept h.ru hg hlr (fun q e => by have := hrow q e; omega), partsIn_kept h.gr hg hlg (fun q e => by have := hrow q e; omega),
    h.bx.grown hg (fun e => by have := hrow _ e.symm; omega), h.vw.kept0 hg hrow hV⟩

end Go.Proofs.Ytnmidppiakdanaa
