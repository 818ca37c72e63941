/-
  CONTRACTS: grants of an argument, kept and marked.
  Conditions: each contract bears its own.
-/
import Derived.Test.YtipmkdacnpkgjaaGs1
import Derived.Test.YtipmkdacnpkgjaaBx0
namespace Go.Proofs.Ytipmkdacnpkgjaa
open Go.RowKit
set_option linter.unusedVariables false
set_option linter.unusedSimpArgs false

theorem Room3.below {w w' : World} {g n : Nat} (h : Room3 w g n) (hg : g < w.heap.size) (hb : Below w.heap.size w w') : Room3 w' g n :=
  ⟨fun j hj => by obtain ⟨v, e⟩ := h.1 j hj; exact ⟨v, (hb.cell (p := ⟨g, j, none⟩) hg).trans e⟩, fun j => (hb.frozen (p := ⟨g, j, none⟩) hg).trans (h.2 j)⟩

theorem Room3.grown {w w' : World} {g n : Nat} {row : Option Nat} (h : Room3 w g n) (hg : g < w.heap.size) (hr : w.grownBy w' row) (hne : some g ≠ row) : Room3 w' g n :=
  ⟨fun j hj => by obtain ⟨v, e⟩ := h.1 j hj; exact ⟨v, hr.cell e hne⟩, fun j => by
    have := h.2 j
    unfold World.frozen? at this ⊢
    simp only at this ⊢
    rw [hr.block g hg hne]
    exact this⟩

theorem Room3.set {w : World} {g n : Nat} (h : Room3 w g n) (o : Nat) (v : Value) : Room3 (w.setCell ⟨g, o, none⟩ v) g n := by
  refine ⟨fun j hj => ?_, fun j => by simp only [World.frozen?_setCell]; exact h.2 j⟩
  obtain ⟨u, e⟩ := h.1 j hj
  by_cases q : j = o
  · subst q
    exact ⟨v, by simp [go_sem, e]⟩
  · exact ⟨u, by rw [World.cell?_setCell_other (h := fun e => q (by have := congrArg Addr.off e; simp at this; omega))]; exact e⟩

theorem grIn_kept {w w' : World} {a : Option Addr} {n L : Nat} {zs : List GrI} {row : Option Nat} (h : GrIn w a n zs) (hg : w.grownBy w' row) (hL : ∀ b off, a = some ⟨b, off, none⟩ → n = 0 ∨ b < L) (hne : ∀ q, row = some q → L ≤ q) : GrIn w' a n zs := by
  refine ⟨h.1, fun hp => ?_⟩
  obtain ⟨b, off, e, hr⟩ := h.2 hp
  have hb : b < L := by
    rcases hL b off e with h0 | h0
    · omega
    · exact h0
  refine ⟨b, off, e, fun k r hk => ?_⟩
  have hx : ∀ (o : Nat) (u : Value), w.cell? ⟨b, o, none⟩ = some u → w'.cell? ⟨b, o, none⟩ = some u := fun o u hu => hg.cell hu (fun q => by have := hne b q.symm; omega)
  obtain ⟨h0, h1, h2⟩ := hr k r hk
  exact ⟨hx _ _ h0, hx _ _ h1, hx _ _ h2⟩

theorem grants_lt {w : World} {a : Option Addr} {n : Nat} {zs : List GrI} (h : GrIn w a n zs) : ∀ b off, a = some ⟨b, off, none⟩ → n = 0 ∨ b < w.heap.size := by
  intro b off e
  by_cases h0 : n = 0
  · exact .inl h0
  · obtain ⟨b', off', r, e', _, _, hb⟩ := h.at (show 0 < n by omega)
    rw [e] at e'
    cases e'
    exact .inr hb

set_option maxHeartbeats 2000000 in
theorem markGrantsR_c (g n cap : Nat) (k0 : Int) (w : World) (hn : n ≤ 1048576) (h0 : 0 ≤ k0) (h1 : k0 ≤ 100000000) (h : Room3 w g n) :
    Calls Try.prog 32 #[.slice (some ⟨g, 0, none⟩) n cap, .int .i64 k0] w fun e w' => e = .returned (.int .i64 (k0 + 3 * (n : Int))) ∧ w.grownBy w' (some g) := by
  have HO : Hid (Room3 w g n) := h
  clear h
  have hn' : (n : Int) ≤ 1048576 := by omega
  go_enter Try.func32, Try.ntmps32
  go_wp2
  go_loopw [1, 5] (fun q i wr => ∃ (j : Nat), j ≤ n ∧ i = .int .i64 (j : Int) ∧ q = .int .i64 (k0 + 3 * (j : Int)) ∧ Room3 wr g n ∧ w.grownBy wr (some g))
    (fun _ i _ => n - (intOf i).toNat)
  case atStart => exact ⟨0, Nat.zero_le _, rfl, by simp, HO.out, grown_refl _ _⟩
  case round =>
    obtain ⟨j, hj, rfl, rfl, hroom, hgr⟩ := hrel
    have HG : Hid (Room3 wr g n ∧ w.grownBy wr (some g)) := ⟨hroom, hgr⟩
    by_cases hlt : j < n
    · obtain ⟨v0, c0⟩ := hroom.1 (j * 3) (by omega)
      obtain ⟨v1, c1⟩ := hroom.1 (j * 3 + 1) (by omega)
      obtain ⟨v2, c2⟩ := hroom.1 (j * 3 + 2) (by omega)
      have f0 := hroom.2 (j * 3)
      have f1 := hroom.2 (j * 3 + 1)
      have f2 := hroom.2 (j * 3 + 2)
      clear hroom hgr
      have hlt' : (j : Int) < (n : Int) := by omega
      go_wp2
      refine ⟨⟨j + 1, by omega, by go_num, ?_, ?_, ?_⟩, by simp [intOf]; omega⟩
      · congr 1; omega
      · exact ((HG.out.1.set _ _).set _ _).set _ _
      · exact grown_tr (grown_tr (grown_tr HG.out.2 (grown_set _ _ _ _)) (grown_set _ _ _ _)) (grown_set _ _ _ _)
    · have hjn : j = n := by omega
      subst hjn
      go_wp2
      go_ret
      exact ⟨rfl, hgr⟩

/-- What the law keeps: its arguments, and the first result in its box. -/
structure SB (w : World) (a0 : Option Addr) (len : Nat) (zs : List RuleI) (b0 : Option Addr) (m : Nat) (gs : List GrI) (B1 : Nat) (c : Int) (a1 : Option Addr) (cap1 : Nat) (ys : List GrI) (W : World) : Prop where
  bl : Below w.heap.size w W
  ru : RulesIn W a0 len zs
  gr : GrIn W b0 m gs
  bx : Box2 W B1 (.int .i64 c) (.slice a1 ys.length cap1)
  vw : GrV W a1 ys

theorem SB.below {w : World} {a0 : Option Addr} {len : Nat} {zs : List RuleI} {b0 : Option Addr} {m : Nat} {gs : List GrI} {B1 : Nat} {c : Int} {a1 : Option Addr} {cap1 : Nat} {ys : List GrI} {W W' : World} (h : SB w a0 len zs b0 m gs B1 c a1 cap1 ys W) (hb : Below W.heap.size W W') : SB w a0 len zs b0 m gs B1 c a1 cap1 ys W' :=
  ⟨h.bl.trans (hb.mono h.bl.size), h.ru.below hb, h.gr.below hb, h.bx.below hb, h.vw.below hb⟩

theorem SB.grown {w : World} {a0 : Option Addr} {len : Nat} {zs : List RuleI} {b0 : Option Addr} {m : Nat} {gs : List GrI} {B1 : Nat} {c : Int} {a1 : Option Addr} {cap1 : Nat} {ys : List GrI} {W W' : World} {row : Option Nat} (N : Nat) (h : SB w a0 len zs b0 m gs B1 c a1 cap1 ys W) (hg : W.grownBy W' row)
    (hlr : ∀ b off, a0 = some ⟨b, off, none⟩ → len = 0 ∨ b < w.heap.size) (hlg : ∀ b off, b0 = some ⟨b, off, none⟩ → m = 0 ∨ b < w.heap.size)
    (hrow : ∀ q, row = some q → N ≤ q) (hN : w.heap.size ≤ N) (hB : B1 < N) (hV : ∀ g, a1 = some ⟨g, 0, none⟩ → g < N) : SB w a0 len zs b0 m gs B1 c a1 cap1 ys W' :=
  ⟨h.bl.grown hg h.bl.size (fun q e => by have := hrow q e; omega), rulesIn_kept h.ru hg hlr (fun q e => by have := hrow q e; omega), grIn_kept h.gr hg hlg (fun q e => by have := hrow q e; omega),
    h.bx.grown hg (fun e => by have := hrow _ e.symm; omega), h.vw.kept hg (fun g e q => by have := hV g e; have := hrow _ q.symm; omega)⟩

theorem own3_row {W : World} {B : Nat} {a : Option Addr} {n cap : Nat} {ys : List GrI} (h : Own3 W B (.slice a n cap) ys) : ∀ q, (Value.slice a n cap).ownBlock = some q → B ≤ q ∧ q < W.heap.size := by
  have h0 : W.ownsRow B 37 3 (.slice a n cap) ys.length (flat3 ys) := h
  exact fun q e => h0.lt q e

theorem own3_kept {W W' : World} {B q : Nat} {a : Option Addr} {n cap : Nat} {ys : List GrI} (h : Own3 W B (.slice a n cap) ys) (hg : W.grownBy W' (some q)) (hq : q < B) : Own3 W' B (.slice a n cap) ys := by
  refine World.ownsRow.kept h hg ?_
  rcases a with _ | ⟨g, o, sp⟩
  · rcases h.form with ⟨h1, _⟩ | ⟨g', cap', h1, h2, _⟩
    · simp at h1; obtain ⟨rfl, rfl⟩ := h1; exact .inl rfl
    · simp at h1
  · rcases h.form with ⟨h1, _⟩ | ⟨g', cap', h1, h2, _⟩
    · simp at h1
    · simp at h1
      obtain ⟨⟨rfl, rfl, rfl⟩, _⟩ := h1
      exact .inr (by simp [Value.ownBlock]; omega)

end Go.Proofs.Ytipmkdacnpkgjaa
