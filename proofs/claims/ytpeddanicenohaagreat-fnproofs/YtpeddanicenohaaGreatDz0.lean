/-
  CONTRACTS: spec.l3With, spec.DrawProofOf: some rules, a role and a principal.
  Conditions: each contract bears its own.
-/
import Derived.Test.YtpeddanicenohaaGreatDp2
import Derived.Test.YtpeddanicenohaaGreatDraw3
import Derived.Test.YtpeddanicenohaaGreatBx0
import Derived.Deep.CutBlock
namespace Go.Proofs.YtpeddanicenohaaGreat
open Go.RowKit
set_option linter.unusedVariables false
set_option linter.unusedSimpArgs false

theorem own8Z_cap {w : World} {B g n cap : Nat} {zs : List RuleI} (hn : zs.length = n) (h : Own8 w B (.slice (some ⟨g, 0, none⟩) n cap) zs) : n ≤ cap ∧ cap ≤ maxLen := by
  have h0 : w.ownsRow B 35 8 (.slice (some ⟨g, 0, none⟩) n cap) zs.length (flatR zs) := h
  rcases h0.2 with ⟨h', _⟩ | ⟨g', cap', cur, h', hb, hg, hc, hm, _⟩
  · simp at h'
  · simp at h'
    obtain ⟨_, _, rfl⟩ := h'
    exact ⟨by omega, hm⟩

def ChanceZ (w : World) (B : Nat) (a : Option Addr) (len cap k : Nat) (ys : List Int) (e : Ending) (w' : World) : Prop := ∃ t : Bool, e = .returned (.bool t) ∧ SrcAt w' B a len cap (k + 1) ys ∧ w.grownBy w' (some B)

set_option maxHeartbeats 400000 in
theorem chanceZ_c (w : World) (B : Nat) (a : Option Addr) (len cap k : Nat) (ys : List Int) (n : Int) (h : SrcAt w B a len cap k ys) (hl : len ≤ 1048576) (hk : k ≤ 1000) (n1 : 1 ≤ n) (n2 : n ≤ 1048576) :
    Calls Tryz.prog 32 #[.pointer (some ⟨B, 0, none⟩), .int .i64 n] w fun e w' => ChanceZ w B a len cap k ys e w' := by
  have H : Hid (SrcAt w B a len cap k ys) := h
  clear h
  go_enter Tryz.func32, Tryz.ntmps32
  go_wp2_with fail
  refine (next_c _ B a len cap k ys n H.out hl hk n1 n2).mono ?_
  rintro e w1 ⟨v, v0, v1, rfl, hS, hG⟩
  have HR : Hid (SrcAt w1 B a len cap (k + 1) ys ∧ w.grownBy w1 (some B)) := ⟨hS, hG⟩
  clear hS hG
  go_wp2_with fail
  go_ret
  exact ⟨_, rfl, HR.out.1, HR.out.2⟩

/-- Rules, a role and a principal that were drawn. -/
def DrawnZ (w : World) (e : Ending) (w' : World) : Prop := ∃ (g n c : Nat) (zs : List RuleI) (o nm p : Int), e = .returned (.tuple #[.slice (some ⟨g, 0, none⟩) n c, .agg #[.int .i64 o, .int .i64 nm], .int .i64 p]) ∧ (n ≤ 17 ∧ n ≤ c ∧ c ≤ maxLen ∧ w.heap.size ≤ g) ∧ RulesIn w' (some ⟨g, 0, none⟩) n zs ∧ Below w.heap.size w w'

/-- What stands while the rest is drawn: the rules, the role's box and the answer's box. -/
structure ZL (w W : World) (q B : Nat) (a : Option Addr) (len cap kk : Nat) (ys : List Int) (g n c : Nat) (zs : List RuleI) (o nm : Int) (w' : World) : Prop where
  lp : LP W w' B a len cap 0 kk ys g n c zs
  x0 : w'.cell? ⟨q, 0, none⟩ = some (.int .i64 o)
  x1 : w'.cell? ⟨q, 1, none⟩ = some (.int .i64 nm)
  fx : ∀ j, w'.frozen? ⟨q, j, none⟩ = false
  r0 : w'.cell? ⟨w.heap.size, 0, none⟩ = some (.int .i64 0)
  r1 : w'.cell? ⟨w.heap.size, 1, none⟩ = some (.int .i64 0)
  fr : ∀ j, w'.frozen? ⟨w.heap.size, j, none⟩ = false

theorem frozen_grown {w w' : World} {row : Option Nat} {b j : Nat} (hg : w.grownBy w' row) (hb : b < w.heap.size) (hne : some b ≠ row) (h : w.frozen? ⟨b, j, none⟩ = false) : w'.frozen? ⟨b, j, none⟩ = false := by
  unfold World.frozen? at h ⊢
  simp only at h ⊢
  rw [hg.block b hb hne]
  exact h

theorem ZL.draw {w W : World} {q B : Nat} {a : Option Addr} {len cap kk k' : Nat} {ys : List Int} {g n c : Nat} {zs : List RuleI} {o nm : Int} {v v' : World} (h : ZL w W q B a len cap kk ys g n c zs o nm v) (hB : B < W.heap.size) (hq : B < q) (hw0 : w.heap.size < B) (hs : SrcAt v' B a len cap k' ys) (hg : v.grownBy v' (some B)) : ZL w W q B a len cap k' ys g n c zs o nm v' := by
  have l1 := World.block_lt_of_cell? v ⟨q, 0, none⟩ h.x0
  have l2 := World.block_lt_of_cell? v ⟨w.heap.size, 0, none⟩ h.r0
  have n1 : some q ≠ some B := fun e => by cases e; omega
  have n2 : some w.heap.size ≠ some B := fun e => by cases e; omega
  exact ⟨h.lp.draw hB hs hg, hg.cell h.x0 n1, hg.cell h.x1 n1, fun j => frozen_grown hg l1 n1 (h.fx j), hg.cell h.r0 n2, hg.cell h.r1 n2, fun j => frozen_grown hg l2 n2 (h.fr j)⟩

theorem ZL.below {w W : World} {q B : Nat} {a : Option Addr} {len cap kk : Nat} {ys : List Int} {g n c : Nat} {zs : List RuleI} {o nm : Int} {v v' : World} (h : ZL w W q B a len cap kk ys g n c zs o nm v) (hb : Below v.heap.size v v') : ZL w W q B a len cap kk ys g n c zs o nm v' := by
  have l1 := World.block_lt_of_cell? v ⟨q, 0, none⟩ h.x0
  have l2 := World.block_lt_of_cell? v ⟨w.heap.size, 0, none⟩ h.r0
  exact ⟨h.lp.below hb, (hb.cell (p := ⟨q, 0, none⟩) l1).trans h.x0, (hb.cell (p := ⟨q, 1, none⟩) l1).trans h.x1, fun j => (hb.frozen (p := ⟨q, j, none⟩) l1).trans (h.fx j), (hb.cell (p := ⟨w.heap.size, 0, none⟩) l2).trans h.r0, (hb.cell (p := ⟨w.heap.size, 1, none⟩) l2).trans h.r1, fun j => (hb.frozen (p := ⟨w.heap.size, j, none⟩) l2).trans (h.fr j)⟩

theorem ZL.alloc {w W : World} {q B : Nat} {a : Option Addr} {len cap kk : Nat} {ys : List Int} {g n c : Nat} {zs : List RuleI} {o nm : Int} {v : World} (h : ZL w W q B a len cap kk ys g n c zs o nm v) (ob : Obj) : ZL w W q B a len cap kk ys g n c zs o nm (v.alloc ob) := h.below ((Below.refl _ _).alloc (Nat.le_refl _) _)

theorem ZL.put {w W : World} {q B : Nat} {a : Option Addr} {len cap kk : Nat} {ys : List Int} {g n c : Nat} {zs : List RuleI} {o nm : Int} {v : World} (h : ZL w W q B a len cap kk ys g n c zs o nm v) (hB : B < W.heap.size) (hqW : W.heap.size ≤ q) (hw0 : w.heap.size < q) (hgq : g ≠ q) (hcode : ∀ b off, a = some ⟨b, off, none⟩ → len = 0 ∨ b < W.heap.size) (o' nm' : Int) : ZL w W q B a len cap kk ys g n c zs o' nm' ((v.setCell ⟨q, 0, none⟩ (.int .i64 o')).setCell ⟨q, 1, none⟩ (.int .i64 nm')) := by
  refine ⟨⟨(h.lp.ow.grown (grown_set _ _ _ _) hgq).grown (grown_set _ _ _ _) hgq, h.lp.ln, (h.lp.ds.set hqW hB hcode 0 _).set hqW hB hcode 1 _, h.lp.gw, by simp only [World.size_setCell]; exact h.lp.gl⟩, by simp [go_sem, h.x0, h.x1], by simp [go_sem, h.x0, h.x1], fun j => by simp only [World.frozen?_setCell]; exact h.fx j, ?_, ?_, fun j => by simp only [World.frozen?_setCell]; exact h.fr j⟩
  · rw [World.cell?_setCell_other (h := fun e => by have := congrArg Addr.block e; simp at this; omega), World.cell?_setCell_other (h := fun e => by have := congrArg Addr.block e; simp at this; omega)]; exact h.r0
  · rw [World.cell?_setCell_other (h := fun e => by have := congrArg Addr.block e; simp at this; omega), World.cell?_setCell_other (h := fun e => by have := congrArg Addr.block e; simp at this; omega)]; exact h.r1

theorem rules_z {w : World} {g n b : Nat} {zs : List RuleI} {u v : Value} (h : RulesIn w (some ⟨g, 0, none⟩) n zs) (hb : b < g) : RulesIn ((w.setCell ⟨b, 0, none⟩ u).setCell ⟨b, 1, none⟩ v) (some ⟨g, 0, none⟩) n zs := by
  refine ⟨h.1, fun hp => ?_⟩
  obtain ⟨b', off, e, hr⟩ := h.2 hp
  cases e
  refine ⟨g, 0, rfl, fun k x hx => ?_⟩
  have key : ∀ (q : Nat) (y : Value), w.cell? ⟨g, q, none⟩ = some y → ((w.setCell ⟨b, 0, none⟩ u).setCell ⟨b, 1, none⟩ v).cell? ⟨g, q, none⟩ = some y := fun q y hy => by
    rw [World.cell?_setCell_other (h := fun e => by have := congrArg Addr.block e; simp at this; omega), World.cell?_setCell_other (h := fun e => by have := congrArg Addr.block e; simp at this; omega)]; exact hy
  obtain ⟨h0, h1, h2, h3, h4, h5, h6, h7⟩ := hr k x hx
  exact ⟨key _ _ h0, key _ _ h1, key _ _ h2, key _ _ h3, key _ _ h4, key _ _ h5, key _ _ h6, key _ _ h7⟩

set_option maxRecDepth 100000 in
set_option maxHeartbeats 4000000 in
theorem withZ_c (a : Option Addr) (len cap : Nat) (ys : List Int) (w : World) (hc : CodeIn w a len ys) (hl : len ≤ 1048576) :
    Calls Tryz.prog 11 #[.slice a len cap] w fun e w' => DrawnZ w e w' := by
  have hcl : ∀ b off, a = some ⟨b, off, none⟩ → len = 0 ∨ b < w.heap.size := by
    intro b off e
    by_cases h0 : len = 0
    · exact .inl h0
    · obtain ⟨b', off', e', h1, _⟩ := hc 0 (by omega)
      rw [e] at e'
      cases e'
      exact .inr (World.block_lt_of_cell? w _ h1)
  obtain ⟨W1, hW1⟩ : ∃ W1, w.alloc (.cells #[.int .i64 0, .int .i64 0] 26) = W1 := ⟨_, rfl⟩
  obtain ⟨W, hW⟩ : ∃ W, W1.alloc (.cells #[.slice a len cap, .int .i64 0] 90) = W := ⟨_, rfl⟩
  have hW1s : W1.heap.size = w.heap.size + 1 := by rw [← hW1]; simp
  have hBW1 : Below w.heap.size w W1 := by rw [← hW1]; exact (Below.refl _ _).alloc (Nat.le_refl _) _
  have hBW : Below w.heap.size w W := by rw [← hW]; exact hBW1.alloc (by omega) _
  have hWs : W.heap.size = w.heap.size + 2 := by rw [← hW]; simp [hW1s]
  have r0 : W.cell? ⟨w.heap.size, 0, none⟩ = some (.int .i64 0) := by rw [← hW, ← hW1]; clear hW1s hBW1 hBW hWs hW hW1; go_cell
  have r1 : W.cell? ⟨w.heap.size, 1, none⟩ = some (.int .i64 0) := by rw [← hW, ← hW1]; clear r0 hW1s hBW1 hBW hWs hW hW1; go_cell
  have fr : ∀ j, W.frozen? ⟨w.heap.size, j, none⟩ = false := fun j => by rw [← hW, ← hW1]; clear r0 r1 hW1s hBW1 hBW hWs hW hW1; simp [go_sem]
  have HS0 : Hid (SrcAt W (w.heap.size + 1) a len cap 0 ys) := by
    refine ⟨?_, hc.kept (row := none) ⟨hBW.os, hBW.tape, hBW.output, hBW.size, fun k hk _ => hBW.block k hk⟩ (fun _ _ _ => .inr (by simp)), fun b off e => (hcl b off e).imp id (fun q => by omega)⟩
    rw [← hW, ← hW1s]
    exact heap_alloc_new W1 _
  have HBW : Hid (Below w.heap.size w W ∧ W.heap.size = w.heap.size + 2) := ⟨hBW, hWs⟩
  have HR : Hid ((W.cell? ⟨w.heap.size, 0, none⟩ = some (.int .i64 0) ∧ W.cell? ⟨w.heap.size, 1, none⟩ = some (.int .i64 0)) ∧ ∀ j, W.frozen? ⟨w.heap.size, j, none⟩ = false) := ⟨⟨r0, r1⟩, fr⟩
  clear hc hcl hBW hBW1 r0 r1 fr
  go_enter Tryz.func11, Tryz.ntmps11
  go_wp2_with fail
  refine (source_c a len cap _).mono ?_
  rintro e w1 ⟨rfl, rfl⟩
  rw [hW, hW1s]
  have HWs : Hid (W.heap.size = w.heap.size + 2) := hWs
  clear hW hW1 hWs
  obtain ⟨B, hBe⟩ : ∃ B, w.heap.size + 1 = B := ⟨_, rfl⟩
  rw [hBe] at HS0 ⊢
  have hw0 : w.heap.size < B := by omega
  have hB : B < W.heap.size := by have := HWs.out; omega
  have HCode : Hid (∀ b off, a = some ⟨b, off, none⟩ → len = 0 ∨ b < W.heap.size) := HS0.out.code_lt
  clear hBe hW1s
  go_wp2_with fail
  refine (bentP_c W B a len cap 0 ys HS0.out hl (by omega)).mono ?_
  rintro e w2 ⟨g, n, c, kk, zs, rfl, hn, hkk, hL⟩
  have HL : Hid (LP W w2 B a len cap 0 kk ys g n c zs) := hL
  clear hL HS0
  go_wp2_with fail
  refine (drawRole_c w2 B a len cap kk ys HL.out.ds.src hl (by omega)).mono ?_
  rintro e w3 ⟨o, nm, ho, rfl, hS3, hG3⟩
  have L3a : Hid (LP W w3 B a len cap 0 (kk + 2) ys g n c zs) := HL.out.draw hB hS3 hG3
  have hz3 : W.heap.size ≤ w3.heap.size := L3a.out.ds.gr.size
  obtain ⟨q, hqe⟩ : ∃ q, w3.heap.size = q := ⟨_, rfl⟩
  have hq : B < q := by omega
  obtain ⟨w4, hw4⟩ : ∃ w4, w4 = w3.alloc (.cells #[.int .i64 o, .int .i64 nm] 26) := ⟨_, rfl⟩
  have L4a : Hid (ZL w W q B a len cap (kk + 2) ys g n c zs o nm w4) := by
    have hne : some w.heap.size ≠ some B := fun e => by cases e; omega
    have hgr := L3a.out.ds.gr
    have hlt : w.heap.size < W.heap.size := by have := HWs.out; omega
    have A4 : Below w3.heap.size w3 w4 := by rw [hw4]; exact (Below.refl _ _).alloc (Nat.le_refl _) _
    have hlt3 : w.heap.size < w3.heap.size := by omega
    refine ⟨L3a.out.below A4, ?_, ?_, fun j => ?_, (A4.cell (p := ⟨w.heap.size, 0, none⟩) hlt3).trans (hgr.cell HR.out.1.1 hne), (A4.cell (p := ⟨w.heap.size, 1, none⟩) hlt3).trans (hgr.cell HR.out.1.2 hne), fun j => (A4.frozen (p := ⟨w.heap.size, j, none⟩) hlt3).trans (frozen_grown hgr hlt hne (HR.out.2 j))⟩
    · rw [hw4, ← hqe]; simp
    · rw [hw4, ← hqe]; simp
    · rw [hw4, ← hqe]; simp [go_sem]
  have hn' : (n : Int) ≤ 17 := by omega
  have hgq : g < q := by rw [← hqe]; exact L3a.out.gl
  have hqW : W.heap.size ≤ q := by omega
  clear hS3 hG3 HL L3a ho
  by_cases hn0 : n = 0
  · have hn0' : ¬ ((0 : Int) < (n : Int)) := by omega
    clear hn0
    have L0 : Hid (ZL w W q B a len cap (kk + 2) ys g n c zs o nm w4.drew) := L4a.out.below (Below.refl _ _).drew
    obtain ⟨kz, hkz⟩ : ∃ kz, kk + 2 = kz := ⟨_, rfl⟩
    rw [hkz] at L0
    have hkz1 : kz ≤ 100 := by omega
    have hqw : w.heap.size < q := by omega
    clear L4a
    go_upto_region 6 with fail
    rw [← hw4]
    clear hw4 hkz
    refine wp_region_held_drew (S := fun w' => w'.cell? ⟨q, 0, none⟩ = some (.int .i64 o) ∧ w'.cell? ⟨q, 1, none⟩ = some (.int .i64 nm)) (by kernel_rfl) (⟨L0.out.x0, L0.out.x1⟩) (fun hHeld => ?_)
    refine wpAnyH_take (i := 0) (v := ?_) rfl (by kernel_rfl) (by kernel_rfl) (by kernel_rfl) (fun _ _ _ h => h) (Or.inl ⟨by kernel_rfl, ?_⟩) (by assumption) ?_
    rotate_left 1
    · intro w hSw; (try dsimp only at hSw); go_simp; try (with_reducible rfl)
    try simp only [Act.put, List.getElem_toArray, List.getElem_cons_succ, List.getElem_cons_zero, List.setIfInBounds_toArray, List.set_cons_zero, List.set_cons_succ]
    refine wpAnyH_take (i := 1) (v := ?_) rfl (by kernel_rfl) (by kernel_rfl) (by kernel_rfl) (fun _ _ _ h => h) (Or.inl ⟨by kernel_rfl, ?_⟩) (by assumption) ?_
    rotate_left 1
    · intro w hSw; (try dsimp only at hSw); go_simp; try (with_reducible rfl)
    try simp only [Act.put, List.getElem_toArray, List.getElem_cons_succ, List.getElem_cons_zero, List.setIfInBounds_toArray, List.set_cons_zero, List.set_cons_succ]
    refine wpAnyH_take (i := 2) (v := ?_) rfl (by kernel_rfl) (by kernel_rfl) (by kernel_rfl) (fun _ _ _ h => h) (Or.inl ⟨by kernel_rfl, ?_⟩) (by assumption) ?_
    rotate_left 1
    · intro w hSw; (try dsimp only at hSw); go_simp; try (with_reducible rfl)
    try simp only [Act.put, List.getElem_toArray, List.getElem_cons_succ, List.getElem_cons_zero, List.setIfInBounds_toArray, List.set_cons_zero, List.set_cons_succ]
    refine wpAnyH_take (i := 3) (v := ?_) rfl (by kernel_rfl) (by kernel_rfl) (by kernel_rfl) (fun _ _ _ h => h) (Or.inl ⟨by kernel_rfl, ?_⟩) (by assumption) ?_
    rotate_left 1
    · intro w hSw; (try dsimp only at hSw); go_simp; try (with_reducible rfl)
    try simp only [Act.put, List.getElem_toArray, List.getElem_cons_succ, List.getElem_cons_zero, List.setIfInBounds_toArray, List.set_cons_zero, List.set_cons_succ]
    refine wpAnyH_take (i := 6) (v := ?_) rfl (by kernel_rfl) (by kernel_rfl) (by kernel_rfl) (fun _ _ _ h => h) (Or.inl ⟨by kernel_rfl, ?_⟩) (by assumption) ?_
    rotate_left 1
    · intro w hSw; (try dsimp only at hSw); go_simp; try (with_reducible rfl)
    try simp only [Act.put, List.getElem_toArray, List.getElem_cons_succ, List.getElem_cons_zero, List.setIfInBounds_toArray, List.set_cons_zero, List.set_cons_succ]
    refine wpAnyH_take (i := 9) (v := ?_) rfl (by kernel_rfl) (by kernel_rfl) (by kernel_rfl) (fun _ _ _ h => h) (Or.inl ⟨by kernel_rfl, ?_⟩) (by assumption) ?_
    rotate_left 1
    · intro w hSw; (try dsimp only at hSw); go_simp; try (with_reducible rfl)
    try simp only [Act.put, List.getElem_toArray, List.getElem_cons_succ, List.getElem_cons_zero, List.setIfInBounds_toArray, List.set_cons_zero, List.set_cons_succ]
    refine wpAnyH_ready (rs := [4]) (by kernel_rfl) (by simp) ?_
    refine AllReadyH.cons rfl (fun K hK => ?_) AllReadyH.nil
    go_simp
    refine (next_c _ B a len cap (kz) ys 5 L0.out.lp.ds.src hl (by omega) (by omega) (by omega)).mono ?_
    rintro e v1 ⟨n1, n10, n11, rfl, hSx, hGx⟩
    have L1 : Hid (ZL w W q B a len cap ((kz + 1)) ys g n c zs o nm v1) := L0.out.draw hB hq hw0 hSx hGx
    have hS : v1.cell? ⟨q, 0, none⟩ = some (.int .i64 o) ∧ v1.cell? ⟨q, 1, none⟩ = some (.int .i64 nm) := ⟨L1.out.x0, L1.out.x1⟩
    obtain ⟨m1, hm1⟩ : ∃ m, IntKind.i64.wrap (1 + n1) = m := ⟨_, rfl⟩
    clear hSx hGx L0
    refine hK.out _ _ hS (fun hHeld => ?_)
    clear hK K
    try simp only [Act.put, List.getElem_toArray, List.getElem_cons_succ, List.getElem_cons_zero, List.setIfInBounds_toArray, List.set_cons_zero, List.set_cons_succ]
    refine wpAnyH_take (i := 5) (v := ?_) rfl (by kernel_rfl) (by kernel_rfl) (by kernel_rfl) (fun _ _ _ h => h) (Or.inl ⟨by kernel_rfl, ?_⟩) (by assumption) ?_
    rotate_left 1
    · intro w hSw; (try dsimp only at hSw); go_simp; try (with_reducible rfl)
    try simp only [Act.put, List.getElem_toArray, List.getElem_cons_succ, List.getElem_cons_zero, List.setIfInBounds_toArray, List.set_cons_zero, List.set_cons_succ]
    refine wpAnyH_ready (rs := [7]) (by kernel_rfl) (by simp) ?_
    refine AllReadyH.cons rfl (fun K hK => ?_) AllReadyH.nil
    go_simp
    refine (next_c _ B a len cap (kz + 1) ys 5 L1.out.lp.ds.src hl (by omega) (by omega) (by omega)).mono ?_
    rintro e v2 ⟨n2, n20, n21, rfl, hSx, hGx⟩
    have L2 : Hid (ZL w W q B a len cap ((kz + 1 + 1)) ys g n c zs o nm v2) := L1.out.draw hB hq hw0 hSx hGx
    have hS : v2.cell? ⟨q, 0, none⟩ = some (.int .i64 o) ∧ v2.cell? ⟨q, 1, none⟩ = some (.int .i64 nm) := ⟨L2.out.x0, L2.out.x1⟩
    obtain ⟨m2, hm2⟩ : ∃ m, IntKind.i64.wrap (1 + n2) = m := ⟨_, rfl⟩
    clear hSx hGx L1
    refine hK.out _ _ hS (fun hHeld => ?_)
    clear hK K
    try simp only [Act.put, List.getElem_toArray, List.getElem_cons_succ, List.getElem_cons_zero, List.setIfInBounds_toArray, List.set_cons_zero, List.set_cons_succ]
    refine wpAnyH_take (i := 8) (v := ?_) rfl (by kernel_rfl) (by kernel_rfl) (by kernel_rfl) (fun _ _ _ h => h) (Or.inl ⟨by kernel_rfl, ?_⟩) (by assumption) ?_
    rotate_left 1
    · intro w hSw; (try dsimp only at hSw); go_simp; try (with_reducible rfl)
    try simp only [Act.put, List.getElem_toArray, List.getElem_cons_succ, List.getElem_cons_zero, List.setIfInBounds_toArray, List.set_cons_zero, List.set_cons_succ]
    refine wpAnyH_ready (rs := [10]) (by kernel_rfl) (by simp) ?_
    refine AllReadyH.cons rfl (fun K hK => ?_) AllReadyH.nil
    go_simp
    refine (next_c _ B a len cap (kz + 1 + 1) ys 8 L2.out.lp.ds.src hl (by omega) (by omega) (by omega)).mono ?_
    rintro e v3 ⟨n3, n30, n31, rfl, hSx, hGx⟩
    have L3 : Hid (ZL w W q B a len cap ((kz + 1 + 1 + 1)) ys g n c zs o nm v3) := L2.out.draw hB hq hw0 hSx hGx
    have hS : v3.cell? ⟨q, 0, none⟩ = some (.int .i64 o) ∧ v3.cell? ⟨q, 1, none⟩ = some (.int .i64 nm) := ⟨L3.out.x0, L3.out.x1⟩
    obtain ⟨m3, hm3⟩ : ∃ m, IntKind.i64.wrap (1 + n3) = m := ⟨_, rfl⟩
    clear hSx hGx L2
    refine hK.out _ _ hS (fun hHeld => ?_)
    clear hK K
    try simp only [Act.put, List.getElem_toArray, List.getElem_cons_succ, List.getElem_cons_zero, List.setIfInBounds_toArray, List.set_cons_zero, List.set_cons_succ]
    refine wpAnyH_take (i := 11) (v := ?_) rfl (by kernel_rfl) (by kernel_rfl) (by kernel_rfl) (fun _ _ _ h => h) (Or.inl ⟨by kernel_rfl, ?_⟩) (by assumption) ?_
    rotate_left 1
    · intro w hSw; (try dsimp only at hSw); go_simp; try (with_reducible rfl)
    try simp only [Act.put, List.getElem_toArray, List.getElem_cons_succ, List.getElem_cons_zero, List.setIfInBounds_toArray, List.set_cons_zero, List.set_cons_succ]
    refine wpAnyH_ready (rs := [12]) (by kernel_rfl) (by simp) ?_
    refine AllReadyH.cons rfl (fun K hK => ?_) AllReadyH.nil
    go_simp
    have L4 : Hid (ZL w W q B a len cap ((kz + 1 + 1 + 1)) ys g n c zs o nm (v3.alloc (.cells #[.int .i64 m1, .int .i64 m2, .int .i64 m3, .int .i64 0, .int .i64 9] 2))) := L3.out.alloc _
    have hS : (v3.alloc (.cells #[.int .i64 m1, .int .i64 m2, .int .i64 m3, .int .i64 0, .int .i64 9] 2)).cell? ⟨q, 0, none⟩ = some (.int .i64 o) ∧ (v3.alloc (.cells #[.int .i64 m1, .int .i64 m2, .int .i64 m3, .int .i64 0, .int .i64 9] 2)).cell? ⟨q, 1, none⟩ = some (.int .i64 nm) := ⟨L4.out.x0, L4.out.x1⟩
    refine hK.out _ _ hS (fun hHeld => ?_)
    clear hK K
    try simp only [Act.put, List.getElem_toArray, List.getElem_cons_succ, List.getElem_cons_zero, List.setIfInBounds_toArray, List.set_cons_zero, List.set_cons_succ]
    refine wpAnyH_ready (rs := [13]) (by kernel_rfl) (by simp) ?_
    refine AllReadyH.cons rfl (fun K hK => ?_) AllReadyH.nil
    go_simp
    refine (pick_c _ B a len cap (kz + 1 + 1 + 1) ys L4.out.lp.ds.src hl (by omega) v3.heap.size 5 5 [m1, m2, m3, 0, 9] rfl (by omega) (by omega) (by have := L3.out.lp.ds.src.lt; omega) (fun j hj => ?_)).mono ?_
    · match j, hj with
      | 0, _ => simp
      | 1, _ => simp
      | 2, _ => simp
      | 3, _ => simp
      | 4, _ => simp
    rintro e v5 ⟨kp, hkp, rfl, hSx, hGx⟩
    generalize (([m1, m2, m3, 0, 9] : List Int)[kp]?.getD 0) = pz
    have L5 : Hid (ZL w W q B a len cap ((kz + 1 + 1 + 1 + 1)) ys g n c zs o nm v5) := L4.out.draw hB hq hw0 hSx hGx
    have hS : v5.cell? ⟨q, 0, none⟩ = some (.int .i64 o) ∧ v5.cell? ⟨q, 1, none⟩ = some (.int .i64 nm) := ⟨L5.out.x0, L5.out.x1⟩
    have rr0 := L5.out.r0
    have rr1 := L5.out.r1
    have ff0 := L5.out.fr 0
    have ff1 := L5.out.fr 1
    have hlv : w.heap.size < v5.heap.size := World.block_lt_of_cell? v5 ⟨w.heap.size, 0, none⟩ rr0
    clear hSx hGx L4
    refine hK.out _ _ hS (fun hHeld => ?_)
    clear hK K
    try simp only [Act.put, List.getElem_toArray, List.getElem_cons_succ, List.getElem_cons_zero, List.setIfInBounds_toArray, List.set_cons_zero, List.set_cons_succ]
    refine wpAnyH_ready (rs := [14]) (by kernel_rfl) (by simp) ?_
    refine AllReadyH.cons rfl (fun K hK => ?_) AllReadyH.nil
    go_simp
    refine hK.out _ _ (by assumption) (fun hHeld => ?_)
    clear hK K
    try simp only [Act.put, List.getElem_toArray, List.getElem_cons_succ, List.getElem_cons_zero, List.setIfInBounds_toArray, List.set_cons_zero, List.set_cons_succ]
    refine wpAnyH_ready (rs := [15]) (by kernel_rfl) (by simp) ?_
    refine AllReadyH.cons rfl (fun K hK => ?_) AllReadyH.nil
    go_simp
    have hS : ((v5.setCell ⟨w.heap.size, 0, none⟩ (.int .i64 o)).setCell ⟨w.heap.size, 1, none⟩ (.int .i64 nm)).cell? ⟨q, 0, none⟩ = some (.int .i64 o) ∧ ((v5.setCell ⟨w.heap.size, 0, none⟩ (.int .i64 o)).setCell ⟨w.heap.size, 1, none⟩ (.int .i64 nm)).cell? ⟨q, 1, none⟩ = some (.int .i64 nm) := ⟨by rw [World.cell?_setCell_other (h := fun e => by have := congrArg Addr.block e; simp at this; omega), World.cell?_setCell_other (h := fun e => by have := congrArg Addr.block e; simp at this; omega)]; exact L5.out.x0, by rw [World.cell?_setCell_other (h := fun e => by have := congrArg Addr.block e; simp at this; omega), World.cell?_setCell_other (h := fun e => by have := congrArg Addr.block e; simp at this; omega)]; exact L5.out.x1⟩
    refine hK.out _ _ hS (fun hHeld => ?_)
    clear hK K
    try simp only [Act.put, List.getElem_toArray, List.getElem_cons_succ, List.getElem_cons_zero, List.setIfInBounds_toArray, List.set_cons_zero, List.set_cons_succ]
    refine wpAnyH_ready (rs := [16]) (by kernel_rfl) (by simp) ?_
    refine AllReadyH.cons rfl (fun K hK => ?_) AllReadyH.nil
    go_simp
    refine hK.out _ _ (by assumption) (fun hHeld => ?_)
    clear hK K
    try simp only [Act.put, List.getElem_toArray, List.getElem_cons_succ, List.getElem_cons_zero, List.setIfInBounds_toArray, List.set_cons_zero, List.set_cons_succ]
    refine wpAnyH_done (by kernel_rfl) ?_ _
    have hgr := L5.out.lp.ds.gr
    go_wp2_with fail
    refine bodyPost_ret (v := .tuple #[.slice (some ⟨g, 0, none⟩) n c, .agg #[.int .i64 o, .int .i64 nm], .int .i64 pz]) (by simp [results, Tryz.results11, go_sem, rr0, rr1, hlv]) rfl ?_
    refine ⟨g, n, c, zs, o, nm, _, rfl, ⟨hn, (own8Z_cap L5.out.lp.ln L5.out.lp.ow).1, (own8Z_cap L5.out.lp.ln L5.out.lp.ow).2, by have := L5.out.lp.gw; have := HWs.out; omega⟩, ?_, ?_⟩
    · exact ((rules_z (L5.out.lp.ow.read L5.out.lp.ln) (by have := L5.out.lp.gw; have := HWs.out; omega)))
    · exact (((HBW.out.1.grown hgr (by have := HWs.out; omega) (fun q e => by cases e; omega)).setCell (Nat.le_refl _) _).setCell (Nat.le_refl _) _)
  · have hn0' : (0 : Int) < (n : Int) := by omega
    have hnp : 1 ≤ n := by omega
    clear hn0
    go_wp2_with fail
    rw [← hw4]
    refine (chanceZ_c w4 B a len cap (kk + 2) ys 4 L4a.out.lp.ds.src hl (by omega) (by omega) (by omega)).mono ?_
    rintro e w5 ⟨t, rfl, hS5, hG5⟩
    have L5a : Hid (ZL w W q B a len cap (kk + 2 + 1) ys g n c zs o nm w5) := L4a.out.draw hB hq hw0 hS5 hG5
    clear hS5 hG5 L4a hw4
    have hqw : w.heap.size < q := by omega
    cases t
    · go_wp2_with fail
      refine (next_c w5 B a len cap (kk + 2 + 1) ys (n : Int) L5a.out.lp.ds.src hl (by omega) (by omega) (by omega)).mono ?_
      rintro e w6 ⟨x, hx0, hx1, rfl, hS6, hG6⟩
      have L6a : Hid (ZL w W q B a len cap (kk + 2 + 1 + 1) ys g n c zs o nm w6) := L5a.out.draw hB hq hw0 hS6 hG6
      clear hS6 hG6 L5a
      obtain ⟨i, rfl⟩ := Int.eq_ofNat_of_zero_le hx0
      have hin : i < n := by omega
      obtain ⟨b, off, r, hb, _, hr⟩ := (L6a.out.lp.ow.read L6a.out.lp.ln).at hin
      cases hb
      obtain ⟨c0, c1, c2, c3, c4, c5, c6, c7⟩ := hr
      have hgl := L6a.out.lp.gl
      have e0 := L6a.out.x0
      have e1 := L6a.out.x1
      have f0 := L6a.out.fx 0
      have f1 := L6a.out.fx 1
      have hlq : q < w6.heap.size := World.block_lt_of_cell? w6 ⟨q, 0, none⟩ e0
      have hx1' : (i : Int) < (n : Int) := by omega
      have L7 : Hid (ZL w W q B a len cap (kk + 2 + 1 + 1) ys g n c zs r.ho r.hn ((w6.setCell ⟨q, 0, none⟩ (.int .i64 r.ho)).setCell ⟨q, 1, none⟩ (.int .i64 r.hn))) := L6a.out.put hB hqW hqw (by omega) HCode.out r.ho r.hn
      clear c0 c3 c4 c5 c6 c7
      obtain ⟨V, hV⟩ : ∃ V, V = (w6.setCell ⟨q, 0, none⟩ (.int .i64 r.ho)).setCell ⟨q, 1, none⟩ (.int .i64 r.hn) := ⟨_, rfl⟩
      have L0 : Hid (ZL w W q B a len cap (kk + 2 + 1 + 1) ys g n c zs r.ho r.hn V.drew) := by rw [hV]; exact L7.out.below (Below.refl _ _).drew
      obtain ⟨kz, hkz⟩ : ∃ kz, kk + 2 + 1 + 1 = kz := ⟨_, rfl⟩
      rw [hkz] at L0
      have hkz1 : kz ≤ 100 := by omega
      clear L7 L6a hkz
      simp only [Nat.zero_add] at c1 c2
      go_upto_region 6 with fail
      rw [← hV]
      clear hV e0 e1 f0 f1 c1 c2 hgl hlq
      refine wp_region_held_drew (S := fun w' => w'.cell? ⟨q, 0, none⟩ = some (.int .i64 r.ho) ∧ w'.cell? ⟨q, 1, none⟩ = some (.int .i64 r.hn)) (by kernel_rfl) (⟨L0.out.x0, L0.out.x1⟩) (fun hHeld => ?_)
      refine wpAnyH_take (i := 0) (v := ?_) rfl (by kernel_rfl) (by kernel_rfl) (by kernel_rfl) (fun _ _ _ h => h) (Or.inl ⟨by kernel_rfl, ?_⟩) (by assumption) ?_
      rotate_left 1
      · intro w hSw; (try dsimp only at hSw); go_simp; try (with_reducible rfl)
      try simp only [Act.put, List.getElem_toArray, List.getElem_cons_succ, List.getElem_cons_zero, List.setIfInBounds_toArray, List.set_cons_zero, List.set_cons_succ]
      refine wpAnyH_take (i := 1) (v := ?_) rfl (by kernel_rfl) (by kernel_rfl) (by kernel_rfl) (fun _ _ _ h => h) (Or.inl ⟨by kernel_rfl, ?_⟩) (by assumption) ?_
      rotate_left 1
      · intro w hSw; (try dsimp only at hSw); go_simp; try (with_reducible rfl)
      try simp only [Act.put, List.getElem_toArray, List.getElem_cons_succ, List.getElem_cons_zero, List.setIfInBounds_toArray, List.set_cons_zero, List.set_cons_succ]
      refine wpAnyH_take (i := 2) (v := ?_) rfl (by kernel_rfl) (by kernel_rfl) (by kernel_rfl) (fun _ _ _ h => h) (Or.inl ⟨by kernel_rfl, ?_⟩) (by assumption) ?_
      rotate_left 1
      · intro w hSw; (try dsimp only at hSw); go_simp; try (with_reducible rfl)
      try simp only [Act.put, List.getElem_toArray, List.getElem_cons_succ, List.getElem_cons_zero, List.setIfInBounds_toArray, List.set_cons_zero, List.set_cons_succ]
      refine wpAnyH_take (i := 3) (v := ?_) rfl (by kernel_rfl) (by kernel_rfl) (by kernel_rfl) (fun _ _ _ h => h) (Or.inl ⟨by kernel_rfl, ?_⟩) (by assumption) ?_
      rotate_left 1
      · intro w hSw; (try dsimp only at hSw); go_simp; try (with_reducible rfl)
      try simp only [Act.put, List.getElem_toArray, List.getElem_cons_succ, List.getElem_cons_zero, List.setIfInBounds_toArray, List.set_cons_zero, List.set_cons_succ]
      refine wpAnyH_take (i := 6) (v := ?_) rfl (by kernel_rfl) (by kernel_rfl) (by kernel_rfl) (fun _ _ _ h => h) (Or.inl ⟨by kernel_rfl, ?_⟩) (by assumption) ?_
      rotate_left 1
      · intro w hSw; (try dsimp only at hSw); go_simp; try (with_reducible rfl)
      try simp only [Act.put, List.getElem_toArray, List.getElem_cons_succ, List.getElem_cons_zero, List.setIfInBounds_toArray, List.set_cons_zero, List.set_cons_succ]
      refine wpAnyH_take (i := 9) (v := ?_) rfl (by kernel_rfl) (by kernel_rfl) (by kernel_rfl) (fun _ _ _ h => h) (Or.inl ⟨by kernel_rfl, ?_⟩) (by assumption) ?_
      rotate_left 1
      · intro w hSw; (try dsimp only at hSw); go_simp; try (with_reducible rfl)
      try simp only [Act.put, List.getElem_toArray, List.getElem_cons_succ, List.getElem_cons_zero, List.setIfInBounds_toArray, List.set_cons_zero, List.set_cons_succ]
      refine wpAnyH_ready (rs := [4]) (by kernel_rfl) (by simp) ?_
      refine AllReadyH.cons rfl (fun K hK => ?_) AllReadyH.nil
      go_simp
      refine (next_c _ B a len cap (kz) ys 5 L0.out.lp.ds.src hl (by omega) (by omega) (by omega)).mono ?_
      rintro e v1 ⟨n1, n10, n11, rfl, hSx, hGx⟩
      have L1 : Hid (ZL w W q B a len cap ((kz + 1)) ys g n c zs r.ho r.hn v1) := L0.out.draw hB hq hw0 hSx hGx
      have hS : v1.cell? ⟨q, 0, none⟩ = some (.int .i64 r.ho) ∧ v1.cell? ⟨q, 1, none⟩ = some (.int .i64 r.hn) := ⟨L1.out.x0, L1.out.x1⟩
      obtain ⟨m1, hm1⟩ : ∃ m, IntKind.i64.wrap (1 + n1) = m := ⟨_, rfl⟩
      clear hSx hGx L0
      refine hK.out _ _ hS (fun hHeld => ?_)
      clear hK K
      try simp only [Act.put, List.getElem_toArray, List.getElem_cons_succ, List.getElem_cons_zero, List.setIfInBounds_toArray, List.set_cons_zero, List.set_cons_succ]
      refine wpAnyH_take (i := 5) (v := ?_) rfl (by kernel_rfl) (by kernel_rfl) (by kernel_rfl) (fun _ _ _ h => h) (Or.inl ⟨by kernel_rfl, ?_⟩) (by assumption) ?_
      rotate_left 1
      · intro w hSw; (try dsimp only at hSw); go_simp; try (with_reducible rfl)
      try simp only [Act.put, List.getElem_toArray, List.getElem_cons_succ, List.getElem_cons_zero, List.setIfInBounds_toArray, List.set_cons_zero, List.set_cons_succ]
      refine wpAnyH_ready (rs := [7]) (by kernel_rfl) (by simp) ?_
      refine AllReadyH.cons rfl (fun K hK => ?_) AllReadyH.nil
      go_simp
      refine (next_c _ B a len cap (kz + 1) ys 5 L1.out.lp.ds.src hl (by omega) (by omega) (by omega)).mono ?_
      rintro e v2 ⟨n2, n20, n21, rfl, hSx, hGx⟩
      have L2 : Hid (ZL w W q B a len cap ((kz + 1 + 1)) ys g n c zs r.ho r.hn v2) := L1.out.draw hB hq hw0 hSx hGx
      have hS : v2.cell? ⟨q, 0, none⟩ = some (.int .i64 r.ho) ∧ v2.cell? ⟨q, 1, none⟩ = some (.int .i64 r.hn) := ⟨L2.out.x0, L2.out.x1⟩
      obtain ⟨m2, hm2⟩ : ∃ m, IntKind.i64.wrap (1 + n2) = m := ⟨_, rfl⟩
      clear hSx hGx L1
      refine hK.out _ _ hS (fun hHeld => ?_)
      clear hK K
      try simp only [Act.put, List.getElem_toArray, List.getElem_cons_succ, List.getElem_cons_zero, List.setIfInBounds_toArray, List.set_cons_zero, List.set_cons_succ]
      refine wpAnyH_take (i := 8) (v := ?_) rfl (by kernel_rfl) (by kernel_rfl) (by kernel_rfl) (fun _ _ _ h => h) (Or.inl ⟨by kernel_rfl, ?_⟩) (by assumption) ?_
      rotate_left 1
      · intro w hSw; (try dsimp only at hSw); go_simp; try (with_reducible rfl)
      try simp only [Act.put, List.getElem_toArray, List.getElem_cons_succ, List.getElem_cons_zero, List.setIfInBounds_toArray, List.set_cons_zero, List.set_cons_succ]
      refine wpAnyH_ready (rs := [10]) (by kernel_rfl) (by simp) ?_
      refine AllReadyH.cons rfl (fun K hK => ?_) AllReadyH.nil
      go_simp
      refine (next_c _ B a len cap (kz + 1 + 1) ys 8 L2.out.lp.ds.src hl (by omega) (by omega) (by omega)).mono ?_
      rintro e v3 ⟨n3, n30, n31, rfl, hSx, hGx⟩
      have L3 : Hid (ZL w W q B a len cap ((kz + 1 + 1 + 1)) ys g n c zs r.ho r.hn v3) := L2.out.draw hB hq hw0 hSx hGx
      have hS : v3.cell? ⟨q, 0, none⟩ = some (.int .i64 r.ho) ∧ v3.cell? ⟨q, 1, none⟩ = some (.int .i64 r.hn) := ⟨L3.out.x0, L3.out.x1⟩
      obtain ⟨m3, hm3⟩ : ∃ m, IntKind.i64.wrap (1 + n3) = m := ⟨_, rfl⟩
      clear hSx hGx L2
      refine hK.out _ _ hS (fun hHeld => ?_)
      clear hK K
      try simp only [Act.put, List.getElem_toArray, List.getElem_cons_succ, List.getElem_cons_zero, List.setIfInBounds_toArray, List.set_cons_zero, List.set_cons_succ]
      refine wpAnyH_take (i := 11) (v := ?_) rfl (by kernel_rfl) (by kernel_rfl) (by kernel_rfl) (fun _ _ _ h => h) (Or.inl ⟨by kernel_rfl, ?_⟩) (by assumption) ?_
      rotate_left 1
      · intro w hSw; (try dsimp only at hSw); go_simp; try (with_reducible rfl)
      try simp only [Act.put, List.getElem_toArray, List.getElem_cons_succ, List.getElem_cons_zero, List.setIfInBounds_toArray, List.set_cons_zero, List.set_cons_succ]
      refine wpAnyH_ready (rs := [12]) (by kernel_rfl) (by simp) ?_
      refine AllReadyH.cons rfl (fun K hK => ?_) AllReadyH.nil
      go_simp
      have L4 : Hid (ZL w W q B a len cap ((kz + 1 + 1 + 1)) ys g n c zs r.ho r.hn (v3.alloc (.cells #[.int .i64 m1, .int .i64 m2, .int .i64 m3, .int .i64 0, .int .i64 9] 2))) := L3.out.alloc _
      have hS : (v3.alloc (.cells #[.int .i64 m1, .int .i64 m2, .int .i64 m3, .int .i64 0, .int .i64 9] 2)).cell? ⟨q, 0, none⟩ = some (.int .i64 r.ho) ∧ (v3.alloc (.cells #[.int .i64 m1, .int .i64 m2, .int .i64 m3, .int .i64 0, .int .i64 9] 2)).cell? ⟨q, 1, none⟩ = some (.int .i64 r.hn) := ⟨L4.out.x0, L4.out.x1⟩
      refine hK.out _ _ hS (fun hHeld => ?_)
      clear hK K
      try simp only [Act.put, List.getElem_toArray, List.getElem_cons_succ, List.getElem_cons_zero, List.setIfInBounds_toArray, List.set_cons_zero, List.set_cons_succ]
      refine wpAnyH_ready (rs := [13]) (by kernel_rfl) (by simp) ?_
      refine AllReadyH.cons rfl (fun K hK => ?_) AllReadyH.nil
      go_simp
      refine (pick_c _ B a len cap (kz + 1 + 1 + 1) ys L4.out.lp.ds.src hl (by omega) v3.heap.size 5 5 [m1, m2, m3, 0, 9] rfl (by omega) (by omega) (by have := L3.out.lp.ds.src.lt; omega) (fun j hj => ?_)).mono ?_
      · match j, hj with
        | 0, _ => simp
        | 1, _ => simp
        | 2, _ => simp
        | 3, _ => simp
        | 4, _ => simp
      rintro e v5 ⟨kp, hkp, rfl, hSx, hGx⟩
      generalize (([m1, m2, m3, 0, 9] : List Int)[kp]?.getD 0) = pz
      have L5 : Hid (ZL w W q B a len cap ((kz + 1 + 1 + 1 + 1)) ys g n c zs r.ho r.hn v5) := L4.out.draw hB hq hw0 hSx hGx
      have hS : v5.cell? ⟨q, 0, none⟩ = some (.int .i64 r.ho) ∧ v5.cell? ⟨q, 1, none⟩ = some (.int .i64 r.hn) := ⟨L5.out.x0, L5.out.x1⟩
      have rr0 := L5.out.r0
      have rr1 := L5.out.r1
      have ff0 := L5.out.fr 0
      have ff1 := L5.out.fr 1
      have hlv : w.heap.size < v5.heap.size := World.block_lt_of_cell? v5 ⟨w.heap.size, 0, none⟩ rr0
      clear hSx hGx L4
      refine hK.out _ _ hS (fun hHeld => ?_)
      clear hK K
      try simp only [Act.put, List.getElem_toArray, List.getElem_cons_succ, List.getElem_cons_zero, List.setIfInBounds_toArray, List.set_cons_zero, List.set_cons_succ]
      refine wpAnyH_ready (rs := [14]) (by kernel_rfl) (by simp) ?_
      refine AllReadyH.cons rfl (fun K hK => ?_) AllReadyH.nil
      go_simp
      refine hK.out _ _ (by assumption) (fun hHeld => ?_)
      clear hK K
      try simp only [Act.put, List.getElem_toArray, List.getElem_cons_succ, List.getElem_cons_zero, List.setIfInBounds_toArray, List.set_cons_zero, List.set_cons_succ]
      refine wpAnyH_ready (rs := [15]) (by kernel_rfl) (by simp) ?_
      refine AllReadyH.cons rfl (fun K hK => ?_) AllReadyH.nil
      go_simp
      have hS : ((v5.setCell ⟨w.heap.size, 0, none⟩ (.int .i64 r.ho)).setCell ⟨w.heap.size, 1, none⟩ (.int .i64 r.hn)).cell? ⟨q, 0, none⟩ = some (.int .i64 r.ho) ∧ ((v5.setCell ⟨w.heap.size, 0, none⟩ (.int .i64 r.ho)).setCell ⟨w.heap.size, 1, none⟩ (.int .i64 r.hn)).cell? ⟨q, 1, none⟩ = some (.int .i64 r.hn) := ⟨by rw [World.cell?_setCell_other (h := fun e => by have := congrArg Addr.block e; simp at this; omega), World.cell?_setCell_other (h := fun e => by have := congrArg Addr.block e; simp at this; omega)]; exact L5.out.x0, by rw [World.cell?_setCell_other (h := fun e => by have := congrArg Addr.block e; simp at this; omega), World.cell?_setCell_other (h := fun e => by have := congrArg Addr.block e; simp at this; omega)]; exact L5.out.x1⟩
      refine hK.out _ _ hS (fun hHeld => ?_)
      clear hK K
      try simp only [Act.put, List.getElem_toArray, List.getElem_cons_succ, List.getElem_cons_zero, List.setIfInBounds_toArray, List.set_cons_zero, List.set_cons_succ]
      refine wpAnyH_ready (rs := [16]) (by kernel_rfl) (by simp) ?_
      refine AllReadyH.cons rfl (fun K hK => ?_) AllReadyH.nil
      go_simp
      refine hK.out _ _ (by assumption) (fun hHeld => ?_)
      clear hK K
      try simp only [Act.put, List.getElem_toArray, List.getElem_cons_succ, List.getElem_cons_zero, List.setIfInBounds_toArray, List.set_cons_zero, List.set_cons_succ]
      refine wpAnyH_done (by kernel_rfl) ?_ _
      have hgr := L5.out.lp.ds.gr
      go_wp2_with fail
      refine bodyPost_ret (v := .tuple #[.slice (some ⟨g, 0, none⟩) n c, .agg #[.int .i64 r.ho, .int .i64 r.hn], .int .i64 pz]) (by simp [results, Tryz.results11, go_sem, rr0, rr1, hlv]) rfl ?_
      refine ⟨g, n, c, zs, r.ho, r.hn, _, rfl, ⟨hn, (own8Z_cap L5.out.lp.ln L5.out.lp.ow).1, (own8Z_cap L5.out.lp.ln L5.out.lp.ow).2, by have := L5.out.lp.gw; have := HWs.out; omega⟩, ?_, ?_⟩
      · exact ((rules_z (L5.out.lp.ow.read L5.out.lp.ln) (by have := L5.out.lp.gw; have := HWs.out; omega)))
      · exact (((HBW.out.1.grown hgr (by have := HWs.out; omega) (fun q e => by cases e; omega)).setCell (Nat.le_refl _) _).setCell (Nat.le_refl _) _)
    · have L0 : Hid (ZL w W q B a len cap (kk + 2 + 1) ys g n c zs o nm w5.drew) := L5a.out.below (Below.refl _ _).drew
      obtain ⟨kz, hkz⟩ : ∃ kz, kk + 2 + 1 = kz := ⟨_, rfl⟩
      rw [hkz] at L0
      have hkz1 : kz ≤ 100 := by omega
      clear L5a hkz
      go_upto_region 6 with fail
      refine wp_region_held_drew (S := fun w' => w'.cell? ⟨q, 0, none⟩ = some (.int .i64 o) ∧ w'.cell? ⟨q, 1, none⟩ = some (.int .i64 nm)) (by kernel_rfl) (⟨L0.out.x0, L0.out.x1⟩) (fun hHeld => ?_)
      refine wpAnyH_take (i := 0) (v := ?_) rfl (by kernel_rfl) (by kernel_rfl) (by kernel_rfl) (fun _ _ _ h => h) (Or.inl ⟨by kernel_rfl, ?_⟩) (by assumption) ?_
      rotate_left 1
      · intro w hSw; (try dsimp only at hSw); go_simp; try (with_reducible rfl)
      try simp only [Act.put, List.getElem_toArray, List.getElem_cons_succ, List.getElem_cons_zero, List.setIfInBounds_toArray, List.set_cons_zero, List.set_cons_succ]
      refine wpAnyH_take (i := 1) (v := ?_) rfl (by kernel_rfl) (by kernel_rfl) (by kernel_rfl) (fun _ _ _ h => h) (Or.inl ⟨by kernel_rfl, ?_⟩) (by assumption) ?_
      rotate_left 1
      · intro w hSw; (try dsimp only at hSw); go_simp; try (with_reducible rfl)
      try simp only [Act.put, List.getElem_toArray, List.getElem_cons_succ, List.getElem_cons_zero, List.setIfInBounds_toArray, List.set_cons_zero, List.set_cons_succ]
      refine wpAnyH_take (i := 2) (v := ?_) rfl (by kernel_rfl) (by kernel_rfl) (by kernel_rfl) (fun _ _ _ h => h) (Or.inl ⟨by kernel_rfl, ?_⟩) (by assumption) ?_
      rotate_left 1
      · intro w hSw; (try dsimp only at hSw); go_simp; try (with_reducible rfl)
      try simp only [Act.put, List.getElem_toArray, List.getElem_cons_succ, List.getElem_cons_zero, List.setIfInBounds_toArray, List.set_cons_zero, List.set_cons_succ]
      refine wpAnyH_take (i := 3) (v := ?_) rfl (by kernel_rfl) (by kernel_rfl) (by kernel_rfl) (fun _ _ _ h => h) (Or.inl ⟨by kernel_rfl, ?_⟩) (by assumption) ?_
      rotate_left 1
      · intro w hSw; (try dsimp only at hSw); go_simp; try (with_reducible rfl)
      try simp only [Act.put, List.getElem_toArray, List.getElem_cons_succ, List.getElem_cons_zero, List.setIfInBounds_toArray, List.set_cons_zero, List.set_cons_succ]
      refine wpAnyH_take (i := 6) (v := ?_) rfl (by kernel_rfl) (by kernel_rfl) (by kernel_rfl) (fun _ _ _ h => h) (Or.inl ⟨by kernel_rfl, ?_⟩) (by assumption) ?_
      rotate_left 1
      · intro w hSw; (try dsimp only at hSw); go_simp; try (with_reducible rfl)
      try simp only [Act.put, List.getElem_toArray, List.getElem_cons_succ, List.getElem_cons_zero, List.setIfInBounds_toArray, List.set_cons_zero, List.set_cons_succ]
      refine wpAnyH_take (i := 9) (v := ?_) rfl (by kernel_rfl) (by kernel_rfl) (by kernel_rfl) (fun _ _ _ h => h) (Or.inl ⟨by kernel_rfl, ?_⟩) (by assumption) ?_
      rotate_left 1
      · intro w hSw; (try dsimp only at hSw); go_simp; try (with_reducible rfl)
      try simp only [Act.put, List.getElem_toArray, List.getElem_cons_succ, List.getElem_cons_zero, List.setIfInBounds_toArray, List.set_cons_zero, List.set_cons_succ]
      refine wpAnyH_ready (rs := [4]) (by kernel_rfl) (by simp) ?_
      refine AllReadyH.cons rfl (fun K hK => ?_) AllReadyH.nil
      go_simp
      refine (next_c _ B a len cap (kz) ys 5 L0.out.lp.ds.src hl (by omega) (by omega) (by omega)).mono ?_
      rintro e v1 ⟨n1, n10, n11, rfl, hSx, hGx⟩
      have L1 : Hid (ZL w W q B a len cap ((kz + 1)) ys g n c zs o nm v1) := L0.out.draw hB hq hw0 hSx hGx
      have hS : v1.cell? ⟨q, 0, none⟩ = some (.int .i64 o) ∧ v1.cell? ⟨q, 1, none⟩ = some (.int .i64 nm) := ⟨L1.out.x0, L1.out.x1⟩
      obtain ⟨m1, hm1⟩ : ∃ m, IntKind.i64.wrap (1 + n1) = m := ⟨_, rfl⟩
      clear hSx hGx L0
      refine hK.out _ _ hS (fun hHeld => ?_)
      clear hK K
      try simp only [Act.put, List.getElem_toArray, List.getElem_cons_succ, List.getElem_cons_zero, List.setIfInBounds_toArray, List.set_cons_zero, List.set_cons_succ]
      refine wpAnyH_take (i := 5) (v := ?_) rfl (by kernel_rfl) (by kernel_rfl) (by kernel_rfl) (fun _ _ _ h => h) (Or.inl ⟨by kernel_rfl, ?_⟩) (by assumption) ?_
      rotate_left 1
      · intro w hSw; (try dsimp only at hSw); go_simp; try (with_reducible rfl)
      try simp only [Act.put, List.getElem_toArray, List.getElem_cons_succ, List.getElem_cons_zero, List.setIfInBounds_toArray, List.set_cons_zero, List.set_cons_succ]
      refine wpAnyH_ready (rs := [7]) (by kernel_rfl) (by simp) ?_
      refine AllReadyH.cons rfl (fun K hK => ?_) AllReadyH.nil
      go_simp
      refine (next_c _ B a len cap (kz + 1) ys 5 L1.out.lp.ds.src hl (by omega) (by omega) (by omega)).mono ?_
      rintro e v2 ⟨n2, n20, n21, rfl, hSx, hGx⟩
      have L2 : Hid (ZL w W q B a len cap ((kz + 1 + 1)) ys g n c zs o nm v2) := L1.out.draw hB hq hw0 hSx hGx
      have hS : v2.cell? ⟨q, 0, none⟩ = some (.int .i64 o) ∧ v2.cell? ⟨q, 1, none⟩ = some (.int .i64 nm) := ⟨L2.out.x0, L2.out.x1⟩
      obtain ⟨m2, hm2⟩ : ∃ m, IntKind.i64.wrap (1 + n2) = m := ⟨_, rfl⟩
      clear hSx hGx L1
      refine hK.out _ _ hS (fun hHeld => ?_)
      clear hK K
      try simp only [Act.put, List.getElem_toArray, List.getElem_cons_succ, List.getElem_cons_zero, List.setIfInBounds_toArray, List.set_cons_zero, List.set_cons_succ]
      refine wpAnyH_take (i := 8) (v := ?_) rfl (by kernel_rfl) (by kernel_rfl) (by kernel_rfl) (fun _ _ _ h => h) (Or.inl ⟨by kernel_rfl, ?_⟩) (by assumption) ?_
      rotate_left 1
      · intro w hSw; (try dsimp only at hSw); go_simp; try (with_reducible rfl)
      try simp only [Act.put, List.getElem_toArray, List.getElem_cons_succ, List.getElem_cons_zero, List.setIfInBounds_toArray, List.set_cons_zero, List.set_cons_succ]
      refine wpAnyH_ready (rs := [10]) (by kernel_rfl) (by simp) ?_
      refine AllReadyH.cons rfl (fun K hK => ?_) AllReadyH.nil
      go_simp
      refine (next_c _ B a len cap (kz + 1 + 1) ys 8 L2.out.lp.ds.src hl (by omega) (by omega) (by omega)).mono ?_
      rintro e v3 ⟨n3, n30, n31, rfl, hSx, hGx⟩
      have L3 : Hid (ZL w W q B a len cap ((kz + 1 + 1 + 1)) ys g n c zs o nm v3) := L2.out.draw hB hq hw0 hSx hGx
      have hS : v3.cell? ⟨q, 0, none⟩ = some (.int .i64 o) ∧ v3.cell? ⟨q, 1, none⟩ = some (.int .i64 nm) := ⟨L3.out.x0, L3.out.x1⟩
      obtain ⟨m3, hm3⟩ : ∃ m, IntKind.i64.wrap (1 + n3) = m := ⟨_, rfl⟩
      clear hSx hGx L2
      refine hK.out _ _ hS (fun hHeld => ?_)
      clear hK K
      try simp only [Act.put, List.getElem_toArray, List.getElem_cons_succ, List.getElem_cons_zero, List.setIfInBounds_toArray, List.set_cons_zero, List.set_cons_succ]
      refine wpAnyH_take (i := 11) (v := ?_) rfl (by kernel_rfl) (by kernel_rfl) (by kernel_rfl) (fun _ _ _ h => h) (Or.inl ⟨by kernel_rfl, ?_⟩) (by assumption) ?_
      rotate_left 1
      · intro w hSw; (try dsimp only at hSw); go_simp; try (with_reducible rfl)
      try simp only [Act.put, List.getElem_toArray, List.getElem_cons_succ, List.getElem_cons_zero, List.setIfInBounds_toArray, List.set_cons_zero, List.set_cons_succ]
      refine wpAnyH_ready (rs := [12]) (by kernel_rfl) (by simp) ?_
      refine AllReadyH.cons rfl (fun K hK => ?_) AllReadyH.nil
      go_simp
      have L4 : Hid (ZL w W q B a len cap ((kz + 1 + 1 + 1)) ys g n c zs o nm (v3.alloc (.cells #[.int .i64 m1, .int .i64 m2, .int .i64 m3, .int .i64 0, .int .i64 9] 2))) := L3.out.alloc _
      have hS : (v3.alloc (.cells #[.int .i64 m1, .int .i64 m2, .int .i64 m3, .int .i64 0, .int .i64 9] 2)).cell? ⟨q, 0, none⟩ = some (.int .i64 o) ∧ (v3.alloc (.cells #[.int .i64 m1, .int .i64 m2, .int .i64 m3, .int .i64 0, .int .i64 9] 2)).cell? ⟨q, 1, none⟩ = some (.int .i64 nm) := ⟨L4.out.x0, L4.out.x1⟩
      refine hK.out _ _ hS (fun hHeld => ?_)
      clear hK K
      try simp only [Act.put, List.getElem_toArray, List.getElem_cons_succ, List.getElem_cons_zero, List.setIfInBounds_toArray, List.set_cons_zero, List.set_cons_succ]
      refine wpAnyH_ready (rs := [13]) (by kernel_rfl) (by simp) ?_
      refine AllReadyH.cons rfl (fun K hK => ?_) AllReadyH.nil
      go_simp
      refine (pick_c _ B a len cap (kz + 1 + 1 + 1) ys L4.out.lp.ds.src hl (by omega) v3.heap.size 5 5 [m1, m2, m3, 0, 9] rfl (by omega) (by omega) (by have := L3.out.lp.ds.src.lt; omega) (fun j hj => ?_)).mono ?_
      · match j, hj with
        | 0, _ => simp
        | 1, _ => simp
        | 2, _ => simp
        | 3, _ => simp
        | 4, _ => simp
      rintro e v5 ⟨kp, hkp, rfl, hSx, hGx⟩
      generalize (([m1, m2, m3, 0, 9] : List Int)[kp]?.getD 0) = pz
      have L5 : Hid (ZL w W q B a len cap ((kz + 1 + 1 + 1 + 1)) ys g n c zs o nm v5) := L4.out.draw hB hq hw0 hSx hGx
      have hS : v5.cell? ⟨q, 0, none⟩ = some (.int .i64 o) ∧ v5.cell? ⟨q, 1, none⟩ = some (.int .i64 nm) := ⟨L5.out.x0, L5.out.x1⟩
      have rr0 := L5.out.r0
      have rr1 := L5.out.r1
      have ff0 := L5.out.fr 0
      have ff1 := L5.out.fr 1
      have hlv : w.heap.size < v5.heap.size := World.block_lt_of_cell? v5 ⟨w.heap.size, 0, none⟩ rr0
      clear hSx hGx L4
      refine hK.out _ _ hS (fun hHeld => ?_)
      clear hK K
      try simp only [Act.put, List.getElem_toArray, List.getElem_cons_succ, List.getElem_cons_zero, List.setIfInBounds_toArray, List.set_cons_zero, List.set_cons_succ]
      refine wpAnyH_ready (rs := [14]) (by kernel_rfl) (by simp) ?_
      refine AllReadyH.cons rfl (fun K hK => ?_) AllReadyH.nil
      go_simp
      refine hK.out _ _ (by assumption) (fun hHeld => ?_)
      clear hK K
      try simp only [Act.put, List.getElem_toArray, List.getElem_cons_succ, List.getElem_cons_zero, List.setIfInBounds_toArray, List.set_cons_zero, List.set_cons_succ]
      refine wpAnyH_ready (rs := [15]) (by kernel_rfl) (by simp) ?_
      refine AllReadyH.cons rfl (fun K hK => ?_) AllReadyH.nil
      go_simp
      have hS : ((v5.setCell ⟨w.heap.size, 0, none⟩ (.int .i64 o)).setCell ⟨w.heap.size, 1, none⟩ (.int .i64 nm)).cell? ⟨q, 0, none⟩ = some (.int .i64 o) ∧ ((v5.setCell ⟨w.heap.size, 0, none⟩ (.int .i64 o)).setCell ⟨w.heap.size, 1, none⟩ (.int .i64 nm)).cell? ⟨q, 1, none⟩ = some (.int .i64 nm) := ⟨by rw [World.cell?_setCell_other (h := fun e => by have := congrArg Addr.block e; simp at this; omega), World.cell?_setCell_other (h := fun e => by have := congrArg Addr.block e; simp at this; omega)]; exact L5.out.x0, by rw [World.cell?_setCell_other (h := fun e => by have := congrArg Addr.block e; simp at this; omega), World.cell?_setCell_other (h := fun e => by have := congrArg Addr.block e; simp at this; omega)]; exact L5.out.x1⟩
      refine hK.out _ _ hS (fun hHeld => ?_)
      clear hK K
      try simp only [Act.put, List.getElem_toArray, List.getElem_cons_succ, List.getElem_cons_zero, List.setIfInBounds_toArray, List.set_cons_zero, List.set_cons_succ]
      refine wpAnyH_ready (rs := [16]) (by kernel_rfl) (by simp) ?_
      refine AllReadyH.cons rfl (fun K hK => ?_) AllReadyH.nil
      go_simp
      refine hK.out _ _ (by assumption) (fun hHeld => ?_)
      clear hK K
      try simp only [Act.put, List.getElem_toArray, List.getElem_cons_succ, List.getElem_cons_zero, List.setIfInBounds_toArray, List.set_cons_zero, List.set_cons_succ]
      refine wpAnyH_done (by kernel_rfl) ?_ _
      have hgr := L5.out.lp.ds.gr
      go_wp2_with fail
      refine bodyPost_ret (v := .tuple #[.slice (some ⟨g, 0, none⟩) n c, .agg #[.int .i64 o, .int .i64 nm], .int .i64 pz]) (by simp [results, Tryz.results11, go_sem, rr0, rr1, hlv]) rfl ?_
      refine ⟨g, n, c, zs, o, nm, _, rfl, ⟨hn, (own8Z_cap L5.out.lp.ln L5.out.lp.ow).1, (own8Z_cap L5.out.lp.ln L5.out.lp.ow).2, by have := L5.out.lp.gw; have := HWs.out; omega⟩, ?_, ?_⟩
      · exact ((rules_z (L5.out.lp.ow.read L5.out.lp.ln) (by have := L5.out.lp.gw; have := HWs.out; omega)))
      · exact (((HBW.out.1.grown hgr (by have := HWs.out; omega) (fun q e => by cases e; omega)).setCell (Nat.le_refl _) _).setCell (Nat.le_refl _) _)

set_option maxRecDepth 100000 in
set_option maxHeartbeats 1000000 in
theorem drawProof_c (a : Option Addr) (len cap : Nat) (ys : List Int) (w : World) (hc : CodeIn w a len ys) (hl : len ≤ 1048576) :
    Calls Tryz.prog 5 #[.slice a len cap] w fun e w' => DrawnZ w e w' := by
  obtain ⟨W, hW⟩ : ∃ W, W = w.alloc (.cells #[.int .i64 0, .int .i64 0] 26) := ⟨_, rfl⟩
  have hBW : Below w.heap.size w W := by rw [hW]; exact (Below.refl _ _).alloc (Nat.le_refl _) _
  have hWs : W.heap.size = w.heap.size + 1 := by rw [hW]; simp
  have r0 : W.cell? ⟨w.heap.size, 0, none⟩ = some (.int .i64 0) := by rw [hW]; simp
  have r1 : W.cell? ⟨w.heap.size, 1, none⟩ = some (.int .i64 0) := by rw [hW]; simp
  have f0 : W.frozen? ⟨w.heap.size, 0, none⟩ = false := by rw [hW]; simp [go_sem]
  have f1 : W.frozen? ⟨w.heap.size, 1, none⟩ = false := by rw [hW]; simp [go_sem]
  have HC : Hid (CodeIn W a len ys) := hc.kept (row := none) ⟨hBW.os, hBW.tape, hBW.output, hBW.size, fun k hk _ => hBW.block k hk⟩ (fun _ _ _ => .inr (by simp))
  clear hc
  go_enter Tryz.func5, Tryz.ntmps5
  go_wp2_with fail
  rw [← hW]
  clear hW
  refine (withZ_c a len cap ys W HC.out hl).mono ?_
  rintro e w1 ⟨g, n, c, zs, o, nm, p, rfl, h1, h3, h5⟩
  have HD : Hid (RulesIn w1 (some ⟨g, 0, none⟩) n zs ∧ Below W.heap.size W w1) := ⟨h3, h5⟩
  have y0 := (h5.cell (p := ⟨w.heap.size, 0, none⟩) (by show w.heap.size < W.heap.size; omega)).trans r0
  have y1 := (h5.cell (p := ⟨w.heap.size, 1, none⟩) (by show w.heap.size < W.heap.size; omega)).trans r1
  have z0 := (h5.frozen (p := ⟨w.heap.size, 0, none⟩) (by show w.heap.size < W.heap.size; omega)).trans f0
  have z1 := (h5.frozen (p := ⟨w.heap.size, 1, none⟩) (by show w.heap.size < W.heap.size; omega)).trans f1
  have hw1 : w.heap.size < w1.heap.size := by have := h5.size; omega
  have hgw : w.heap.size < g := by have := h1.2.2.2; omega
  have B1 : Below w.heap.size w w1 := hBW.trans (h5.mono (by omega))
  clear h3 h5 r0 r1 f0 f1 hWs
  go_wp2_with fail
  refine bodyPost_ret (v := .tuple #[.slice (some ⟨g, 0, none⟩) n c, .agg #[.int .i64 o, .int .i64 nm], .int .i64 p]) (by simp [results, Tryz.results5, go_sem, y0, y1, hw1]) rfl ?_
  exact ⟨g, n, c, zs, o, nm, p, rfl, ⟨h1.1, h1.2.1, h1.2.2.1, by omega⟩, rules_z HD.out.1 hgw, (B1.setCell (Nat.le_refl _) _).setCell (Nat.le_refl _) _⟩

end Go.Proofs.YtpeddanicenohaaGreat
