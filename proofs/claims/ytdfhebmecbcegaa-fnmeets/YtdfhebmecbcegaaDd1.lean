/-
  CONTRACTS: spec.l9Draw: shares drawn from a source.
  Conditions: each contract bears its own.
-/
import Derived.Test.YtdfhebmecbcegaaDd0
import Derived.Test.YtdfhebmecbcegaaCe1
import Derived.Test.YtdfhebmecbcegaaShM
import Derived.Test.YtdfhebmecbcegaaDc0
namespace Go.Proofs.Ytdfhebmecbcegaa
open Go.RowKit
set_option linter.unusedVariables false
set_option linter.unusedSimpArgs false

theorem grown_below {W W' : World} (hb : Below W.heap.size W W') : W.grownBy W' none := ⟨hb.os, hb.tape, hb.output, hb.size, fun b hl _ => hb.block b hl⟩

theorem wrap9 {z : Int} (h0 : 0 ≤ z) (h1 : z ≤ 1000) : IntKind.i64.wrap z = z := by rw [IntKind.wrap_i64]; omega

/-- What a chance gives. -/
def ChanceQ (w : World) (B : Nat) (a : Option Addr) (len cap k : Nat) (ys : List Int) (e : Ending) (w' : World) : Prop := ∃ t : Bool, e = .returned (.bool t) ∧ SrcAt w' B a len cap (k + 1) ys ∧ w.grownBy w' (some B)

set_option maxHeartbeats 400000 in
theorem chance9_c (w : World) (B : Nat) (a : Option Addr) (len cap k : Nat) (ys : List Int) (n : Int) (h : SrcAt w B a len cap k ys) (hl : len ≤ 1048576) (hk : k ≤ 1000) (n1 : 1 ≤ n) (n2 : n ≤ 1048576) :
    Calls Try.prog 76 #[.pointer (some ⟨B, 0, none⟩), .int .i64 n] w fun e w' => ChanceQ w B a len cap k ys e w' := by
  have H : Hid (SrcAt w B a len cap k ys) := h
  clear h
  go_enter Try.func76, Try.ntmps76
  go_wp2_with fail
  refine (next_c _ B a len cap k ys n H.out hl hk n1 n2).mono ?_
  rintro e w1 ⟨v, v0, v1, rfl, hS, hG⟩
  go_wp2
  go_ret
  exact ⟨_, rfl, hS, hG⟩

/-- Shares drawn so far: the row, the source. -/
structure LS (w wr : World) (B : Nat) (a : Option Addr) (len cap kk : Nat) (ys : List Int) (v : Value) (zs : List ShI) : Prop where
  ow : OwnSh wr w.heap.size v zs
  ds : DS w wr B a len cap kk ys
  ok : ∀ z ∈ zs, 0 ≤ z.r ∧ z.r ≤ 8
  hB : B < w.heap.size
  code : ∀ b off, a = some ⟨b, off, none⟩ → len = 0 ∨ b < w.heap.size

/-- The same, with the statement that is at hand. -/
structure LD (w wr : World) (B : Nat) (a : Option Addr) (len cap kk : Nat) (ys : List Int) (v : Value) (zs : List ShI) (q : Nat) (x : StI) : Prop where
  ls : LS w wr B a len cap kk ys v zs
  bx : wr.heap[q]? = some (.cells #[.int .i64 x.k, .int .i64 x.e, .int .i64 x.f, .int .i64 x.s, .int .i64 x.n] 26 (0, 0))
  gq : w.heap.size ≤ q

theorem LS.draw {w wr wy : World} {B : Nat} {a : Option Addr} {len cap kk k' : Nat} {ys : List Int} {v : Value} {zs : List ShI} (h : LS w wr B a len cap kk ys v zs) (hs : SrcAt wy B a len cap k' ys) (hg : wr.grownBy wy (some B)) : LS w wy B a len cap k' ys v zs := by
  refine ⟨?_, h.ds.draw hs hg, h.ok, h.hB, h.code⟩
  obtain ⟨ra, rc, rfl⟩ := h.ow.slice
  exact ownSh_kept h.ow hg h.hB

theorem LS.below {w wr wy : World} {B : Nat} {a : Option Addr} {len cap kk : Nat} {ys : List Int} {v : Value} {zs : List ShI} (h : LS w wr B a len cap kk ys v zs) (hb : Below wr.heap.size wr wy) : LS w wy B a len cap kk ys v zs :=
  ⟨h.ow.below hb, ⟨h.ds.src.below hb, grown_trans h.ds.gr (grown_none (grown_below hb) _)⟩, h.ok, h.hB, h.code⟩

theorem LD.draw {wy : World} {k' : Nat} {w wr : World} {B : Nat} {a : Option Addr} {len cap kk : Nat} {ys : List Int} {v : Value} {zs : List ShI} {q : Nat} {x : StI} (h : LD w wr B a len cap kk ys v zs q x) (hs : SrcAt wy B a len cap k' ys) (hg : wr.grownBy wy (some B)) : LD w wy B a len cap k' ys v zs q x :=
  ⟨h.ls.draw hs hg, (hg.block q (Array.getElem?_eq_some_iff.1 h.bx).1 (by have := h.gq; have := h.ls.hB; simp; omega)).trans h.bx, h.gq⟩

theorem LD.below {wy : World} {w wr : World} {B : Nat} {a : Option Addr} {len cap kk : Nat} {ys : List Int} {v : Value} {zs : List ShI} {q : Nat} {x : StI} (h : LD w wr B a len cap kk ys v zs q x) (hb : Below wr.heap.size wr wy) : LD w wy B a len cap kk ys v zs q x :=
  ⟨h.ls.below hb, (hb.block q (Array.getElem?_eq_some_iff.1 h.bx).1).trans h.bx, h.gq⟩

theorem LD.cells {w wr : World} {B : Nat} {a : Option Addr} {len cap kk : Nat} {ys : List Int} {v : Value} {zs : List ShI} {q : Nat} {x : StI} (h : LD w wr B a len cap kk ys v zs q x) : StAt wr q 0 x ∧ (∀ j, wr.frozen? ⟨q, j, none⟩ = false) ∧ q < wr.heap.size :=
  ⟨⟨by simp [World.cell?, h.bx], by simp [World.cell?, h.bx], by simp [World.cell?, h.bx], by simp [World.cell?, h.bx], by simp [World.cell?, h.bx]⟩, fun j => by simp [World.frozen?, h.bx], (Array.getElem?_eq_some_iff.1 h.bx).1⟩

theorem LD.ne {w wr : World} {B : Nat} {a : Option Addr} {len cap kk : Nat} {ys : List Int} {v : Value} {zs : List ShI} {q : Nat} {x : StI} (h : LD w wr B a len cap kk ys v zs q x) : ∀ g, v.ownBlock = some g → g ≠ q := by
  intro g e hq
  subst hq
  have h0 : wr.ownsRow w.heap.size 45 6 v zs.length (flatSh zs) := h.ls.ow
  rcases h0.2 with q | ⟨g', cap, cur, e1, hg, hb, rest⟩
  · rw [q.1] at e
    simp [Value.ownBlock] at e
  · rw [e1] at e
    simp [Value.ownBlock] at e
    subst e
    have := hb.symm.trans h.bx
    simp at this

theorem set5 {W : World} {q : Nat} {x : StI} {t : TypeId} (h : W.heap[q]? = some (.cells #[.int .i64 x.k, .int .i64 x.e, .int .i64 x.f, .int .i64 x.s, .int .i64 x.n] t (0, 0))) (y : StI) : (((((W.setCell ⟨q, 0, none⟩ (.int .i64 y.k)).setCell ⟨q, 1, none⟩ (.int .i64 y.e)).setCell ⟨q, 2, none⟩ (.int .i64 y.f)).setCell ⟨q, 3, none⟩ (.int .i64 y.s)).setCell ⟨q, 4, none⟩ (.int .i64 y.n)).heap[q]? = some (.cells #[.int .i64 y.k, .int .i64 y.e, .int .i64 y.f, .int .i64 y.s, .int .i64 y.n] t (0, 0)) := by
  have h1 := heap_setCell_same _ q 0 _ t (.int .i64 y.k) h
  have h2 := heap_setCell_same _ q 1 _ t (.int .i64 y.e) h1
  have h3 := heap_setCell_same _ q 2 _ t (.int .i64 y.f) h2
  have h4 := heap_setCell_same _ q 3 _ t (.int .i64 y.s) h3
  have h5 := heap_setCell_same _ q 4 _ t (.int .i64 y.n) h4
  simpa using h5

theorem grown_setq (W : World) (q j : Nat) (v : Value) : W.grownBy (W.setCell ⟨q, j, none⟩ v) (some q) := ⟨rfl, rfl, rfl, by simp [World.setCell], fun k _ hk => Below.heap_setCell _ _ _ _ (fun e => hk (by rw [e]))⟩

theorem LS.row {w wr wy : World} {B : Nat} {a : Option Addr} {len cap kk : Nat} {ys : List Int} {v : Value} {zs : List ShI} (h : LS w wr B a len cap kk ys v zs) {q : Nat} (hg : wr.grownBy wy (some q)) (hq : w.heap.size ≤ q) (hne : ∀ g, v.ownBlock = some g → g ≠ q) : LS w wy B a len cap kk ys v zs := by
  refine ⟨?_, h.ds.row hg (fun p e => by cases e; exact hq) h.hB h.code, h.ok, h.hB, h.code⟩
  have h0 : wr.ownsRow w.heap.size 45 6 v zs.length (flatSh zs) := h.ow
  exact owns_kept h0 (fun g e => hg.block g (h0.lt g e).2 (fun e' => hne g e (Option.some.inj e')))

theorem LD.store {w wr : World} {B : Nat} {a : Option Addr} {len cap kk : Nat} {ys : List Int} {v : Value} {zs : List ShI} {q : Nat} {x : StI} (h : LD w wr B a len cap kk ys v zs q x) (y : StI) : LD w (((((wr.setCell ⟨q, 0, none⟩ (.int .i64 y.k)).setCell ⟨q, 1, none⟩ (.int .i64 y.e)).setCell ⟨q, 2, none⟩ (.int .i64 y.f)).setCell ⟨q, 3, none⟩ (.int .i64 y.s)).setCell ⟨q, 4, none⟩ (.int .i64 y.n)) B a len cap kk ys v zs q y :=
  ⟨h.ls.row (grown_trans (grown_trans (grown_trans (grown_trans (grown_setq _ q 0 _) (grown_setq _ q 1 _)) (grown_setq _ q 2 _)) (grown_setq _ q 3 _)) (grown_setq _ q 4 _)) h.gq h.ne, set5 h.bx y, h.gq⟩

theorem LD.six {w wr : World} {B : Nat} {a : Option Addr} {len cap kk : Nat} {ys : List Int} {v : Value} {zs : List ShI} {q : Nat} {x : StI} (h : LD w wr B a len cap kk ys v zs q x) {Y : Nat} (hY : w.heap.size ≤ Y) (hq : q ≠ Y) (hne : ∀ g, v.ownBlock = some g → g ≠ Y) (x0 x1 x2 x3 x4 x5 : Value) : LD w ((((((wr.setCell ⟨Y, 0, none⟩ x0).setCell ⟨Y, 1, none⟩ x1).setCell ⟨Y, 2, none⟩ x2).setCell ⟨Y, 3, none⟩ x3).setCell ⟨Y, 4, none⟩ x4).setCell ⟨Y, 5, none⟩ x5) B a len cap kk ys v zs q x := by
  have hg := grown_trans (grown_trans (grown_trans (grown_trans (grown_trans (grown_setq wr Y 0 x0) (grown_setq _ Y 1 x1)) (grown_setq _ Y 2 x2)) (grown_setq _ Y 3 x3)) (grown_setq _ Y 4 x4)) (grown_setq _ Y 5 x5)
  exact ⟨h.ls.row hg hY hne, (hg.block q (Array.getElem?_eq_some_iff.1 h.bx).1 (fun e => hq (Option.some.inj e))).trans h.bx, h.gq⟩

theorem LD.apart {w wr : World} {B : Nat} {a : Option Addr} {len cap kk : Nat} {ys : List Int} {v : Value} {zs : List ShI} {q : Nat} {x : StI} (h : LD w wr B a len cap kk ys v zs q x) : ∀ g, v.ownBlock = some g → g ≠ wr.heap.size := by
  have h0 : wr.ownsRow w.heap.size 45 6 v zs.length (flatSh zs) := h.ls.ow
  intro g e
  have := (h0.lt g e).2
  omega

/-- A share is put behind. -/
theorem LD.push {wy : World} {v' : Value} {w wr : World} {B : Nat} {a : Option Addr} {len cap kk : Nat} {ys : List Int} {v : Value} {zs : List ShI} {q : Nat} {x : StI} (h : LD w wr B a len cap kk ys v zs q x) (p : ShI) (hp : 0 ≤ p.r ∧ p.r ≤ 8) (ho : OwnSh wy w.heap.size v' (zs ++ [p])) (hg : wr.grownBy wy v.ownBlock) : LD w wy B a len cap kk ys v' (zs ++ [p]) q x := by
  have h0 : wr.ownsRow w.heap.size 45 6 v zs.length (flatSh zs) := h.ls.ow
  refine ⟨⟨ho, h.ls.ds.row hg (fun g e => (h0.lt g e).1) h.ls.hB h.ls.code, ?_, h.ls.hB, h.ls.code⟩, (hg.block q (Array.getElem?_eq_some_iff.1 h.bx).1 (fun e => h.ne q e.symm rfl)).trans h.bx, h.gq⟩
  intro z hz
  rcases List.mem_append.1 hz with e | e
  · exact h.ls.ok z e
  · simp at e
    rw [e]
    exact hp

theorem cell_six (W : World) {x0 x1 x2 x3 x4 x5 : Value} (T : TypeId) : ∀ j u, [x0, x1, x2, x3, x4, x5][j]? = some u → (W.alloc (.cells #[x0, x1, x2, x3, x4, x5] T)).cell? ((⟨W.heap.size, 0, none⟩ : Addr).add j) = some u := by
  intro j u hj
  have := (boxV_new W #[x0, x1, x2, x3, x4, x5] T).out j u (by simpa using hj)
  match j with
  | 0 => exact this
  | j + 1 => simpa [Addr.add] using this

/-- What 'y := Share{..}' leaves. -/
def YB (w : World) (B : Nat) (a : Option Addr) (len cap k : Nat) (ys : List Int) (v : Value) (zs : List ShI) (q : Nat) (x : StI) (s : Value) (wx : World) : Prop :=
  ∃ (Y : Nat) (r : Int), s = .pointer (some ⟨Y, 0, none⟩) ∧ 0 ≤ r ∧ r ≤ 8 ∧ BoxV Y [.int .i64 r, .int .i64 x.k, .int .i64 x.e, .int .i64 x.f, .int .i64 x.s, .int .i64 x.n] wx ∧ Y < wx.heap.size ∧ LD w wx B a len cap k ys v zs q x

set_option maxRecDepth 20000 in
set_option maxHeartbeats 1000000 in
theorem draw9_c (w : World) (B : Nat) (a : Option Addr) (len cap k0 : Nat) (ys : List Int) (f : Int) (h : SrcAt w B a len cap k0 ys) (hl : len ≤ 1048576) (hk : k0 ≤ 500) (hf1 : 1 ≤ f) (hf2 : f ≤ 2) :
    Calls Try.prog 74 #[.pointer (some ⟨B, 0, none⟩), .int .i64 f] w fun e w' => ∃ (v : Value) (zs : List ShI) (kk : Nat), e = .returned v ∧ zs.length ≤ 13 ∧ kk ≤ k0 + 120 ∧ LS w w' B a len cap kk ys v zs := by
  have hB := h.lt
  have HCode : Hid (∀ b off, a = some ⟨b, off, none⟩ → len = 0 ∨ b < w.heap.size) := h.code_lt
  have L0 : Hid (LS w (w.alloc (.cells #[] 45)) B a len cap k0 ys (.slice (some ⟨w.heap.size, 0, none⟩) 0 0) []) :=
    ⟨World.ownsRow_lit (base := w.heap.size) (e := 45) (size := 6) w #[] 0 (Nat.le_refl _) (Nat.zero_le _) rfl, (DS.start h).alloc _, fun z hz => by simp at hz, hB, h.code_lt⟩
  have hw1 : IntKind.i64.wrap (3 * f) = 3 * f := wrap9 (by omega) (by omega)
  have hw2 : IntKind.i64.wrap (3 * f + 1) = 3 * f + 1 := wrap9 (by omega) (by omega)
  obtain ⟨i0, hi, hz0, hz1, hz2⟩ := info_parts Try.info45
  have hun := Try.under24
  clear h
  go_enter Try.func74, Try.ntmps74
  go_wp2_with fail
  have HD := draw7_c _ B a len cap k0 ys L0.out.ds.src hl (by omega)
  unfold GivesST at HD
  refine HD.mono ?_
  clear HD
  rintro e w1 ⟨x0, kk, hkk, rfl, hS, hG⟩
  have L1 : Hid (LD w (w1.alloc (.cells #[.int .i64 x0.k, .int .i64 x0.e, .int .i64 x0.f, .int .i64 x0.s, .int .i64 x0.n] 26)) B a len cap kk ys (.slice (some ⟨w.heap.size, 0, none⟩) 0 0) [] w1.heap.size x0) :=
    ⟨(L0.out.draw hS hG).below ((Below.refl _ _).alloc (Nat.le_refl _) _), heap_alloc_new w1 _, by have := hG.size; simp at this; omega⟩
  clear hS hG L0
  go_wp2_with fail
  generalize w1.alloc (.cells #[.int .i64 x0.k, .int .i64 x0.e, .int .i64 x0.f, .int .i64 x0.s, .int .i64 x0.n] 26) = w2 at L1 ⊢
  generalize w1.heap.size = q at L1 ⊢
  refine (next_c _ B a len cap kk ys 14 L1.out.ls.ds.src hl (by omega) (by omega) (by omega)).mono ?_
  rintro e w3 ⟨t, t0, t1, rfl, hS, hG⟩
  have L2 := hid (L1.out.draw hS hG)
  obtain ⟨r1, rfl⟩ := Int.eq_ofNat_of_zero_le t0
  clear hS hG L1
  go_wp2_with fail
  go_loopw [5, 7] (fun v i wr => ∃ (kk r : Nat) (va : Option Addr) (vc : Nat) (zs : List ShI) (x : StI), v = .slice va zs.length vc ∧ i = .int .i64 (r : Int) ∧ zs.length + r ≤ 13 ∧ kk + 8 * r ≤ k0 + 120 ∧ Hid (LD w wr B a len cap kk ys (.slice va zs.length vc) zs q x)) (fun _ i _ => (intOf i).toNat)
  case atStart => exact ⟨_, r1, _, _, [], x0, rfl, rfl, by simp; omega, by omega, L2.out⟩
  case round =>
    obtain ⟨kk, r, va, vc, zs, x, rfl, rfl, hnr, hkr, HL⟩ := hrel
    by_cases hr : 0 < r
    · have hr' : (0 : Int) < (r : Int) := by omega
      go_wp2_with fail
      refine (chance9_c _ B a len cap kk ys 5 HL.out.ls.ds.src hl (by omega) (by omega) (by omega)).mono ?_
      rintro e w4 ⟨t, rfl, hS, hG⟩
      have HL4 := hid (HL.out.draw hS hG)
      clear hS hG HL
      cases t
      · go_upto_region 8 with fail
        have HL8 := hid (HL4.out.below (Below.refl _ _).drew)
        have HA8 := hid (HL4.out.below ((Below.refl _ _).alloc (Nat.le_refl _) (.cells #[.int .i64 0, .int .i64 0, .int .i64 0, .int .i64 0, .int .i64 0, .int .i64 0] 45)).drew)
        obtain ⟨⟨c0, c1, c2, c3, c4⟩, -, hq8⟩ := HL4.out.cells
        go_cut [8] from 14 to 37 (fun s wx => YB w B a len cap (kk + 1 + 1) ys (.slice va zs.length vc) zs q x s wx)
        case first =>
          refine wp_region_held_drew (S := fun w' => w'.cell? ⟨q, 0, none⟩ = some (.int .i64 x.k) ∧ w'.cell? ⟨q, 1, none⟩ = some (.int .i64 x.e) ∧ w'.cell? ⟨q, 2, none⟩ = some (.int .i64 x.f) ∧ w'.cell? ⟨q, 3, none⟩ = some (.int .i64 x.s) ∧ w'.cell? ⟨q, 4, none⟩ = some (.int .i64 x.n)) (by kernel_rfl) (⟨c0, c1, c2, c3, c4⟩) (fun hHeld => ?_)
          refine wpAnyH_take (i := 0) (v := ?_) rfl (by kernel_rfl) (by kernel_rfl) (by kernel_rfl) (fun _ _ _ h => h) (Or.inl ⟨by kernel_rfl, ?_⟩) (by assumption) ?_
          rotate_left 1
          · intro w hSw; (try dsimp only at hSw); go_simp; try (with_reducible rfl)
          try simp only [Act.put, List.getElem_toArray, List.getElem_cons_succ, List.getElem_cons_zero, List.setIfInBounds_toArray, List.set_cons_zero, List.set_cons_succ]
          refine wpAnyH_take (i := 1) (v := ?_) rfl (by kernel_rfl) (by kernel_rfl) (by kernel_rfl) (fun _ _ _ h => h) (Or.inl ⟨by kernel_rfl, ?_⟩) (by assumption) ?_
          rotate_left 1
          · intro w hSw; (try dsimp only at hSw); go_simp; try (with_reducible rfl)
          try simp only [Act.put, List.getElem_toArray, List.getElem_cons_succ, List.getElem_cons_zero, List.setIfInBounds_toArray, List.set_cons_zero, List.set_cons_succ]
          refine wpAnyH_take (i := 2) (v := ?_) rfl (by kernel_rfl) (by kernel_rfl) (by kernel_rfl) (fun _ _ _ h => h) (Or.inl ⟨by kernel_rfl, ?_⟩) (by assumption) ?_
          rotate_left 1
          · intro w hSw; (try dsimp only at hSw); go_simp; try (with_reducible rfl)
          try simp only [Act.put, List.getElem_toArray, List.getElem_cons_succ, List.getElem_cons_zero, List.setIfInBounds_toArray, List.set_cons_zero, List.set_cons_succ]
          refine wpAnyH_take (i := 3) (v := ?_) rfl (by kernel_rfl) (by kernel_rfl) (by kernel_rfl) (fun _ _ _ h => h) (Or.inl ⟨by kernel_rfl, ?_⟩) (by assumption) ?_
          rotate_left 1
          · intro w hSw; (try dsimp only at hSw); go_simp; try (with_reducible rfl)
          try simp only [Act.put, List.getElem_toArray, List.getElem_cons_succ, List.getElem_cons_zero, List.setIfInBounds_toArray, List.set_cons_zero, List.set_cons_succ]
          refine wpAnyH_take (i := 6) (v := ?_) rfl (by kernel_rfl) (by kernel_rfl) (by kernel_rfl) (fun _ _ _ h => h) (Or.inl ⟨by kernel_rfl, ?_⟩) (by assumption) ?_
          rotate_left 1
          · intro w hSw; (try dsimp only at hSw); go_simp; try (with_reducible rfl)
          try simp only [Act.put, List.getElem_toArray, List.getElem_cons_succ, List.getElem_cons_zero, List.setIfInBounds_toArray, List.set_cons_zero, List.set_cons_succ]
          refine wpAnyH_ready (rs := [4, 8]) (by kernel_rfl) (by simp) ?_
          refine AllReadyH.cons rfl (fun K hK => ?_) (AllReadyH.cons rfl (fun K hK => ?_) AllReadyH.nil)
          · go_simp
            try rw [hw1]
            try rw [hw2]
            refine (next_c _ B a len cap (kk + 1) ys (3 * f + 1) HL8.out.ls.ds.src hl (by omega) (by omega) (by omega)).mono ?_
            rintro d w8 ⟨u, u0, u1, rfl, hS8, hG8⟩
            have hw5 : IntKind.i64.wrap (1 + u) = 1 + u := wrap9 (by omega) (by omega)
            have HL9 := hid (HL8.out.draw hS8 hG8)
            have hS := HL9.out.cells.1
            refine hK.out _ _ hS (fun hHeld => ?_)
            clear hK K
            try simp only [Act.put, List.getElem_toArray, List.getElem_cons_succ, List.getElem_cons_zero, List.setIfInBounds_toArray, List.set_cons_zero, List.set_cons_succ]
            refine wpAnyH_take (i := 5) (v := ?_) rfl (by kernel_rfl) (by kernel_rfl) (by kernel_rfl) (fun _ _ _ h => h) (Or.inl ⟨by kernel_rfl, ?_⟩) (by assumption) ?_
            rotate_left 1
            · intro w hSw; (try dsimp only at hSw); go_simp; try (with_reducible rfl)
            try simp only [Act.put, List.getElem_toArray, List.getElem_cons_succ, List.getElem_cons_zero, List.setIfInBounds_toArray, List.set_cons_zero, List.set_cons_succ]
            refine wpAnyH_take (i := 7) (v := ?_) rfl (by kernel_rfl) (by kernel_rfl) (by kernel_rfl) (fun _ _ _ h => h) (Or.inl ⟨by kernel_rfl, ?_⟩) (by assumption) ?_
            rotate_left 1
            · intro w hSw; (try dsimp only at hSw); go_simp; try (with_reducible rfl)
            try simp only [Act.put, List.getElem_toArray, List.getElem_cons_succ, List.getElem_cons_zero, List.setIfInBounds_toArray, List.set_cons_zero, List.set_cons_succ]
            refine wpAnyH_ready (rs := [8]) (by kernel_rfl) (by simp) ?_
            refine AllReadyH.cons rfl (fun K hK => ?_) AllReadyH.nil
            go_simp
            have hS := (HL9.out.below ((Below.refl _ _).alloc (Nat.le_refl _) (.cells #[.int .i64 0, .int .i64 0, .int .i64 0, .int .i64 0, .int .i64 0, .int .i64 0] 45))).cells.1
            refine hK.out _ _ hS (fun hHeld => ?_)
            clear hK K
            try simp only [Act.put, List.getElem_toArray, List.getElem_cons_succ, List.getElem_cons_zero, List.setIfInBounds_toArray, List.set_cons_zero, List.set_cons_succ]
            refine wpAnyH_ready (rs := [9]) (by kernel_rfl) (by simp) ?_
            refine AllReadyH.cons rfl (fun K hK => ?_) AllReadyH.nil
            go_simp
            have hS := (HL9.out.below ((Below.refl _ _).alloc (Nat.le_refl _) (.cells #[.int .i64 (1 + u), .int .i64 x.k, .int .i64 x.e, .int .i64 x.f, .int .i64 x.s, .int .i64 x.n] 45))).cells.1
            refine hK.out _ _ hS (fun hHeld => ?_)
            clear hK K
            try simp only [Act.put, List.getElem_toArray, List.getElem_cons_succ, List.getElem_cons_zero, List.setIfInBounds_toArray, List.set_cons_zero, List.set_cons_succ]
            refine wpAnyH_done (by kernel_rfl) ?_ _
            go_wp2_with fail
            go_meet
            case rel => exact ⟨_, 1 + u, rfl, by omega, by omega, (boxV_new w8 _ _).out, by simp, HL9.out.below ((Below.refl _ _).alloc (Nat.le_refl _) _)⟩
          · go_simp
            have hS := HA8.out.cells.1
            refine hK.out _ _ hS (fun hHeld => ?_)
            clear hK K
            try simp only [Act.put, List.getElem_toArray, List.getElem_cons_succ, List.getElem_cons_zero, List.setIfInBounds_toArray, List.set_cons_zero, List.set_cons_succ]
            refine wpAnyH_ready (rs := [4]) (by kernel_rfl) (by simp) ?_
            refine AllReadyH.cons rfl (fun K hK => ?_) AllReadyH.nil
            go_simp
            try rw [hw1]
            try rw [hw2]
            refine (next_c _ B a len cap (kk + 1) ys (3 * f + 1) HA8.out.ls.ds.src hl (by omega) (by omega) (by omega)).mono ?_
            rintro d w8 ⟨u, u0, u1, rfl, hS8, hG8⟩
            have hw5 : IntKind.i64.wrap (1 + u) = 1 + u := wrap9 (by omega) (by omega)
            have HL9 := hid (HA8.out.draw hS8 hG8)
            have hYB : w4.heap.size ≠ B := by have := HL4.out.ls.hB; have := HL4.out.ls.ds.gr.size; omega
            have HY9 := hid (BoxW.grown ((boxW_new w4 #[.int .i64 0, .int .i64 0, .int .i64 0, .int .i64 0, .int .i64 0, .int .i64 0] 45).below (by simp) (Below.refl _ _).drew) (by simp) hG8 hYB)
            have hYl : w4.heap.size < w8.heap.size := by have := hG8.size; simp at this; omega
            have n0 := HY9.out.1 0 _ rfl
            have n1 := HY9.out.1 1 _ rfl
            have n2 := HY9.out.1 2 _ rfl
            have n3 := HY9.out.1 3 _ rfl
            have n4 := HY9.out.1 4 _ rfl
            have n5 := HY9.out.1 5 _ rfl
            have m0 := HY9.out.2 0
            have m1 := HY9.out.2 1
            have m2 := HY9.out.2 2
            have m3 := HY9.out.2 3
            have m4 := HY9.out.2 4
            have m5 := HY9.out.2 5
            have hS := HL9.out.cells.1
            refine hK.out _ _ hS (fun hHeld => ?_)
            clear hK K
            try simp only [Act.put, List.getElem_toArray, List.getElem_cons_succ, List.getElem_cons_zero, List.setIfInBounds_toArray, List.set_cons_zero, List.set_cons_succ]
            refine wpAnyH_take (i := 5) (v := ?_) rfl (by kernel_rfl) (by kernel_rfl) (by kernel_rfl) (fun _ _ _ h => h) (Or.inl ⟨by kernel_rfl, ?_⟩) (by assumption) ?_
            rotate_left 1
            · intro w hSw; (try dsimp only at hSw); go_simp; try (with_reducible rfl)
            try simp only [Act.put, List.getElem_toArray, List.getElem_cons_succ, List.getElem_cons_zero, List.setIfInBounds_toArray, List.set_cons_zero, List.set_cons_succ]
            refine wpAnyH_take (i := 7) (v := ?_) rfl (by kernel_rfl) (by kernel_rfl) (by kernel_rfl) (fun _ _ _ h => h) (Or.inl ⟨by kernel_rfl, ?_⟩) (by assumption) ?_
            rotate_left 1
            · intro w hSw; (try dsimp only at hSw); go_simp; try (with_reducible rfl)
            try simp only [Act.put, List.getElem_toArray, List.getElem_cons_succ, List.getElem_cons_zero, List.setIfInBounds_toArray, List.set_cons_zero, List.set_cons_succ]
            refine wpAnyH_ready (rs := [9]) (by kernel_rfl) (by simp) ?_
            refine AllReadyH.cons rfl (fun K hK => ?_) AllReadyH.nil
            go_simp
            have hS := (HL9.out.six (Y := w4.heap.size) (Nat.le_trans HL4.out.ls.ds.gr.size (Nat.le_refl _)) (Nat.ne_of_lt HL4.out.cells.2.2) HL4.out.apart (.int .i64 (1 + u)) (.int .i64 x.k) (.int .i64 x.e) (.int .i64 x.f) (.int .i64 x.s) (.int .i64 x.n)).cells.1
            refine hK.out _ _ hS (fun hHeld => ?_)
            clear hK K
            try simp only [Act.put, List.getElem_toArray, List.getElem_cons_succ, List.getElem_cons_zero, List.setIfInBounds_toArray, List.set_cons_zero, List.set_cons_succ]
            refine wpAnyH_done (by kernel_rfl) ?_ _
            go_wp2_with fail
            go_meet
            case rel => exact ⟨_, 1 + u, rfl, by omega, by omega, ((((((HY9.out.put 0 (by simp) (.int .i64 (1 + u))).put 1 (by simp) (.int .i64 x.k)).put 2 (by simp) (.int .i64 x.e)).put 3 (by simp) (.int .i64 x.f)).put 4 (by simp) (.int .i64 x.s)).put 5 (by simp) (.int .i64 x.n)).1, by simp only [World.size_setCell]; exact hYl, (HL9.out.six (Y := w4.heap.size) (Nat.le_trans HL4.out.ls.ds.gr.size (Nat.le_refl _)) (Nat.ne_of_lt HL4.out.cells.2.2) HL4.out.apart (.int .i64 (1 + u)) (.int .i64 x.k) (.int .i64 x.e) (.int .i64 x.f) (.int .i64 x.s) (.int .i64 x.n))⟩
        case rest =>
          obtain ⟨Y, p, rfl, p0, p1, hY, hYl, hL⟩ := hcut
          have HLc := hid hL
          have y0 := hY 0 _ rfl
          have y1 := hY 1 _ rfl
          have y2 := hY 2 _ rfl
          have y3 := hY 3 _ rfl
          have y4 := hY 4 _ rfl
          have y5 := hY 5 _ rfl
          have HI := hid (ShV.isIn rfl HLc.out.ls.ow.view)
          clear hL hY HL8 HA8 HL4 c0 c1 c2 c3 c4 hq8
          go_wp2_with fail
          refine (l9Has_c va zs.length vc zs ⟨p, x.k, x.e, x.f, x.s, x.n⟩ _ (by omega) HI.out).mono ?_
          rintro d w10 ⟨rfl, hb10⟩
          have HL10 := hid (HLc.out.below hb10)
          have z0 := (hb10.cell (p := ⟨Y, 0, none⟩) hYl).trans y0
          have z1 := (hb10.cell (p := ⟨Y, 1, none⟩) hYl).trans y1
          have z2 := (hb10.cell (p := ⟨Y, 2, none⟩) hYl).trans y2
          have z3 := (hb10.cell (p := ⟨Y, 3, none⟩) hYl).trans y3
          have z4 := (hb10.cell (p := ⟨Y, 4, none⟩) hYl).trans y4
          have z5 := (hb10.cell (p := ⟨Y, 5, none⟩) hYl).trans y5
          have hYl' := Nat.lt_of_lt_of_le hYl hb10.size
          clear y0 y1 y2 y3 y4 y5 hYl hb10 HLc HI
          cases hh : hasSh zs ⟨p, x.k, x.e, x.f, x.s, x.n⟩
          · clear hh
            go_wp2_with (first
              | (at_builtin; refine wpList_append_own _ rfl _ _ 24 rfl w.heap.size 45 i0 (.agg #[.int .i64 0, .int .i64 0, .int .i64 0, .int .i64 0, .int .i64 0, .int .i64 0]) 6 48 hun hi hz0 hz1 hz2 rfl (by decide) _ zs.length (flatSh zs) rfl (HL10.out.ls.ow.alloc _) ⟨w10.heap.size, 0, none⟩ 1 1 [.int .i64 p, .int .i64 x.k, .int .i64 x.e, .int .i64 x.f, .int .i64 x.s, .int .i64 x.n] rfl rfl (cell_six w10 _) (by simp [Value.oneCell']) (by unfold maxLen; omega) (by omega) (by have := HL10.out.ls.ds.gr.size; simp; omega) ?_)
              | fail)
            intro v' w11 hown' hgrow hnil
            have HN := hid ((HL10.out.below ((Below.refl _ _).alloc (Nat.le_refl _) _)).push ⟨p, x.k, x.e, x.f, x.s, x.n⟩ ⟨p0, p1⟩ (ownSh_push hown') hgrow)
            clear hown' hgrow hnil
            obtain ⟨va', vc', rfl⟩ := HN.out.ls.ow.slice
            go_wp2
            exact ⟨⟨_, r - 1, va', vc', _, x, rfl, by simp; omega, by simp; omega, by omega, HN⟩, by simp [intOf]; omega⟩
          · clear hh
            go_wp2
            exact ⟨⟨_, r - 1, va, vc, zs, x, rfl, by simp; omega, by omega, by omega, HL10⟩, by simp [intOf]; omega⟩
      · go_wp2_with fail
        have HD := draw7_c _ B a len cap (kk + 1) ys HL4.out.ls.ds.src hl (by omega)
        unfold GivesST at HD
        refine HD.mono ?_
        clear HD
        rintro e w5 ⟨x1, k1, hk1, rfl, hS, hG⟩
        have HL5 := hid (HL4.out.draw hS hG)
        have HL6 := hid (HL5.out.store x1)
        obtain ⟨⟨c0, c1, c2, c3, c4⟩, hfr, hq8⟩ := HL5.out.cells
        have f0 := hfr 0
        have f1 := hfr 1
        have f2 := hfr 2
        have f3 := hfr 3
        have f4 := hfr 4
        clear hS hG HL5 HL4 hfr
        go_upto_region 8 with fail
        generalize ((((w5.setCell ⟨q, 0, none⟩ (.int .i64 x1.k)).setCell ⟨q, 1, none⟩ (.int .i64 x1.e)).setCell ⟨q, 2, none⟩ (.int .i64 x1.f)).setCell ⟨q, 3, none⟩ (.int .i64 x1.s)).setCell ⟨q, 4, none⟩ (.int .i64 x1.n) = w6 at HL6 ⊢
        clear c0 c1 c2 c3 c4 f0 f1 f2 f3 f4 hq8
        have HL8 := hid (HL6.out.below (Below.refl _ _).drew)
        have HA8 := hid (HL6.out.below ((Below.refl _ _).alloc (Nat.le_refl _) (.cells #[.int .i64 0, .int .i64 0, .int .i64 0, .int .i64 0, .int .i64 0, .int .i64 0] 45)).drew)
        obtain ⟨⟨c0, c1, c2, c3, c4⟩, -, hq8⟩ := HL6.out.cells
        go_cut [8] from 14 to 37 (fun s wx => YB w B a len cap (k1 + 1) ys (.slice va zs.length vc) zs q x1 s wx)
        case first =>
          refine wp_region_held_drew (S := fun w' => w'.cell? ⟨q, 0, none⟩ = some (.int .i64 x1.k) ∧ w'.cell? ⟨q, 1, none⟩ = some (.int .i64 x1.e) ∧ w'.cell? ⟨q, 2, none⟩ = some (.int .i64 x1.f) ∧ w'.cell? ⟨q, 3, none⟩ = some (.int .i64 x1.s) ∧ w'.cell? ⟨q, 4, none⟩ = some (.int .i64 x1.n)) (by kernel_rfl) (⟨c0, c1, c2, c3, c4⟩) (fun hHeld => ?_)
          refine wpAnyH_take (i := 0) (v := ?_) rfl (by kernel_rfl) (by kernel_rfl) (by kernel_rfl) (fun _ _ _ h => h) (Or.inl ⟨by kernel_rfl, ?_⟩) (by assumption) ?_
          rotate_left 1
          · intro w hSw; (try dsimp only at hSw); go_simp; try (with_reducible rfl)
          try simp only [Act.put, List.getElem_toArray, List.getElem_cons_succ, List.getElem_cons_zero, List.setIfInBounds_toArray, List.set_cons_zero, List.set_cons_succ]
          refine wpAnyH_take (i := 1) (v := ?_) rfl (by kernel_rfl) (by kernel_rfl) (by kernel_rfl) (fun _ _ _ h => h) (Or.inl ⟨by kernel_rfl, ?_⟩) (by assumption) ?_
          rotate_left 1
          · intro w hSw; (try dsimp only at hSw); go_simp; try (with_reducible rfl)
          try simp only [Act.put, List.getElem_toArray, List.getElem_cons_succ, List.getElem_cons_zero, List.setIfInBounds_toArray, List.set_cons_zero, List.set_cons_succ]
          refine wpAnyH_take (i := 2) (v := ?_) rfl (by kernel_rfl) (by kernel_rfl) (by kernel_rfl) (fun _ _ _ h => h) (Or.inl ⟨by kernel_rfl, ?_⟩) (by assumption) ?_
          rotate_left 1
          · intro w hSw; (try dsimp only at hSw); go_simp; try (with_reducible rfl)
          try simp only [Act.put, List.getElem_toArray, List.getElem_cons_succ, List.getElem_cons_zero, List.setIfInBounds_toArray, List.set_cons_zero, List.set_cons_succ]
          refine wpAnyH_take (i := 3) (v := ?_) rfl (by kernel_rfl) (by kernel_rfl) (by kernel_rfl) (fun _ _ _ h => h) (Or.inl ⟨by kernel_rfl, ?_⟩) (by assumption) ?_
          rotate_left 1
          · intro w hSw; (try dsimp only at hSw); go_simp; try (with_reducible rfl)
          try simp only [Act.put, List.getElem_toArray, List.getElem_cons_succ, List.getElem_cons_zero, List.setIfInBounds_toArray, List.set_cons_zero, List.set_cons_succ]
          refine wpAnyH_take (i := 6) (v := ?_) rfl (by kernel_rfl) (by kernel_rfl) (by kernel_rfl) (fun _ _ _ h => h) (Or.inl ⟨by kernel_rfl, ?_⟩) (by assumption) ?_
          rotate_left 1
          · intro w hSw; (try dsimp only at hSw); go_simp; try (with_reducible rfl)
          try simp only [Act.put, List.getElem_toArray, List.getElem_cons_succ, List.getElem_cons_zero, List.setIfInBounds_toArray, List.set_cons_zero, List.set_cons_succ]
          refine wpAnyH_ready (rs := [4, 8]) (by kernel_rfl) (by simp) ?_
          refine AllReadyH.cons rfl (fun K hK => ?_) (AllReadyH.cons rfl (fun K hK => ?_) AllReadyH.nil)
          · go_simp
            try rw [hw1]
            try rw [hw2]
            refine (next_c _ B a len cap (k1) ys (3 * f + 1) HL8.out.ls.ds.src hl (by omega) (by omega) (by omega)).mono ?_
            rintro d w8 ⟨u, u0, u1, rfl, hS8, hG8⟩
            have hw5 : IntKind.i64.wrap (1 + u) = 1 + u := wrap9 (by omega) (by omega)
            have HL9 := hid (HL8.out.draw hS8 hG8)
            have hS := HL9.out.cells.1
            refine hK.out _ _ hS (fun hHeld => ?_)
            clear hK K
            try simp only [Act.put, List.getElem_toArray, List.getElem_cons_succ, List.getElem_cons_zero, List.setIfInBounds_toArray, List.set_cons_zero, List.set_cons_succ]
            refine wpAnyH_take (i := 5) (v := ?_) rfl (by kernel_rfl) (by kernel_rfl) (by kernel_rfl) (fun _ _ _ h => h) (Or.inl ⟨by kernel_rfl, ?_⟩) (by assumption) ?_
            rotate_left 1
            · intro w hSw; (try dsimp only at hSw); go_simp; try (with_reducible rfl)
            try simp only [Act.put, List.getElem_toArray, List.getElem_cons_succ, List.getElem_cons_zero, List.setIfInBounds_toArray, List.set_cons_zero, List.set_cons_succ]
            refine wpAnyH_take (i := 7) (v := ?_) rfl (by kernel_rfl) (by kernel_rfl) (by kernel_rfl) (fun _ _ _ h => h) (Or.inl ⟨by kernel_rfl, ?_⟩) (by assumption) ?_
            rotate_left 1
            · intro w hSw; (try dsimp only at hSw); go_simp; try (with_reducible rfl)
            try simp only [Act.put, List.getElem_toArray, List.getElem_cons_succ, List.getElem_cons_zero, List.setIfInBounds_toArray, List.set_cons_zero, List.set_cons_succ]
            refine wpAnyH_ready (rs := [8]) (by kernel_rfl) (by simp) ?_
            refine AllReadyH.cons rfl (fun K hK => ?_) AllReadyH.nil
            go_simp
            have hS := (HL9.out.below ((Below.refl _ _).alloc (Nat.le_refl _) (.cells #[.int .i64 0, .int .i64 0, .int .i64 0, .int .i64 0, .int .i64 0, .int .i64 0] 45))).cells.1
            refine hK.out _ _ hS (fun hHeld => ?_)
            clear hK K
            try simp only [Act.put, List.getElem_toArray, List.getElem_cons_succ, List.getElem_cons_zero, List.setIfInBounds_toArray, List.set_cons_zero, List.set_cons_succ]
            refine wpAnyH_ready (rs := [9]) (by kernel_rfl) (by simp) ?_
            refine AllReadyH.cons rfl (fun K hK => ?_) AllReadyH.nil
            go_simp
            have hS := (HL9.out.below ((Below.refl _ _).alloc (Nat.le_refl _) (.cells #[.int .i64 (1 + u), .int .i64 x1.k, .int .i64 x1.e, .int .i64 x1.f, .int .i64 x1.s, .int .i64 x1.n] 45))).cells.1
            refine hK.out _ _ hS (fun hHeld => ?_)
            clear hK K
            try simp only [Act.put, List.getElem_toArray, List.getElem_cons_succ, List.getElem_cons_zero, List.setIfInBounds_toArray, List.set_cons_zero, List.set_cons_succ]
            refine wpAnyH_done (by kernel_rfl) ?_ _
            go_wp2_with fail
            go_meet
            case rel => exact ⟨_, 1 + u, rfl, by omega, by omega, (boxV_new w8 _ _).out, by simp, HL9.out.below ((Below.refl _ _).alloc (Nat.le_refl _) _)⟩
          · go_simp
            have hS := HA8.out.cells.1
            refine hK.out _ _ hS (fun hHeld => ?_)
            clear hK K
            try simp only [Act.put, List.getElem_toArray, List.getElem_cons_succ, List.getElem_cons_zero, List.setIfInBounds_toArray, List.set_cons_zero, List.set_cons_succ]
            refine wpAnyH_ready (rs := [4]) (by kernel_rfl) (by simp) ?_
            refine AllReadyH.cons rfl (fun K hK => ?_) AllReadyH.nil
            go_simp
            try rw [hw1]
            try rw [hw2]
            refine (next_c _ B a len cap (k1) ys (3 * f + 1) HA8.out.ls.ds.src hl (by omega) (by omega) (by omega)).mono ?_
            rintro d w8 ⟨u, u0, u1, rfl, hS8, hG8⟩
            have hw5 : IntKind.i64.wrap (1 + u) = 1 + u := wrap9 (by omega) (by omega)
            have HL9 := hid (HA8.out.draw hS8 hG8)
            have hYB : w6.heap.size ≠ B := by have := HL6.out.ls.hB; have := HL6.out.ls.ds.gr.size; omega
            have HY9 := hid (BoxW.grown ((boxW_new w6 #[.int .i64 0, .int .i64 0, .int .i64 0, .int .i64 0, .int .i64 0, .int .i64 0] 45).below (by simp) (Below.refl _ _).drew) (by simp) hG8 hYB)
            have hYl : w6.heap.size < w8.heap.size := by have := hG8.size; simp at this; omega
            have n0 := HY9.out.1 0 _ rfl
            have n1 := HY9.out.1 1 _ rfl
            have n2 := HY9.out.1 2 _ rfl
            have n3 := HY9.out.1 3 _ rfl
            have n4 := HY9.out.1 4 _ rfl
            have n5 := HY9.out.1 5 _ rfl
            have m0 := HY9.out.2 0
            have m1 := HY9.out.2 1
            have m2 := HY9.out.2 2
            have m3 := HY9.out.2 3
            have m4 := HY9.out.2 4
            have m5 := HY9.out.2 5
            have hS := HL9.out.cells.1
            refine hK.out _ _ hS (fun hHeld => ?_)
            clear hK K
            try simp only [Act.put, List.getElem_toArray, List.getElem_cons_succ, List.getElem_cons_zero, List.setIfInBounds_toArray, List.set_cons_zero, List.set_cons_succ]
            refine wpAnyH_take (i := 5) (v := ?_) rfl (by kernel_rfl) (by kernel_rfl) (by kernel_rfl) (fun _ _ _ h => h) (Or.inl ⟨by kernel_rfl, ?_⟩) (by assumption) ?_
            rotate_left 1
            · intro w hSw; (try dsimp only at hSw); go_simp; try (with_reducible rfl)
            try simp only [Act.put, List.getElem_toArray, List.getElem_cons_succ, List.getElem_cons_zero, List.setIfInBounds_toArray, List.set_cons_zero, List.set_cons_succ]
            refine wpAnyH_take (i := 7) (v := ?_) rfl (by kernel_rfl) (by kernel_rfl) (by kernel_rfl) (fun _ _ _ h => h) (Or.inl ⟨by kernel_rfl, ?_⟩) (by assumption) ?_
            rotate_left 1
            · intro w hSw; (try dsimp only at hSw); go_simp; try (with_reducible rfl)
            try simp only [Act.put, List.getElem_toArray, List.getElem_cons_succ, List.getElem_cons_zero, List.setIfInBounds_toArray, List.set_cons_zero, List.set_cons_succ]
            refine wpAnyH_ready (rs := [9]) (by kernel_rfl) (by simp) ?_
            refine AllReadyH.cons rfl (fun K hK => ?_) AllReadyH.nil
            go_simp
            have hS := (HL9.out.six (Y := w6.heap.size) (Nat.le_trans HL6.out.ls.ds.gr.size (Nat.le_refl _)) (Nat.ne_of_lt HL6.out.cells.2.2) HL6.out.apart (.int .i64 (1 + u)) (.int .i64 x1.k) (.int .i64 x1.e) (.int .i64 x1.f) (.int .i64 x1.s) (.int .i64 x1.n)).cells.1
            refine hK.out _ _ hS (fun hHeld => ?_)
            clear hK K
            try simp only [Act.put, List.getElem_toArray, List.getElem_cons_succ, List.getElem_cons_zero, List.setIfInBounds_toArray, List.set_cons_zero, List.set_cons_succ]
            refine wpAnyH_done (by kernel_rfl) ?_ _
            go_wp2_with fail
            go_meet
            case rel => exact ⟨_, 1 + u, rfl, by omega, by omega, ((((((HY9.out.put 0 (by simp) (.int .i64 (1 + u))).put 1 (by simp) (.int .i64 x1.k)).put 2 (by simp) (.int .i64 x1.e)).put 3 (by simp) (.int .i64 x1.f)).put 4 (by simp) (.int .i64 x1.s)).put 5 (by simp) (.int .i64 x1.n)).1, by simp only [World.size_setCell]; exact hYl, (HL9.out.six (Y := w6.heap.size) (Nat.le_trans HL6.out.ls.ds.gr.size (Nat.le_refl _)) (Nat.ne_of_lt HL6.out.cells.2.2) HL6.out.apart (.int .i64 (1 + u)) (.int .i64 x1.k) (.int .i64 x1.e) (.int .i64 x1.f) (.int .i64 x1.s) (.int .i64 x1.n))⟩
        case rest =>
          obtain ⟨Y, p, rfl, p0, p1, hY, hYl, hL⟩ := hcut
          have HLc := hid hL
          have y0 := hY 0 _ rfl
          have y1 := hY 1 _ rfl
          have y2 := hY 2 _ rfl
          have y3 := hY 3 _ rfl
          have y4 := hY 4 _ rfl
          have y5 := hY 5 _ rfl
          have HI := hid (ShV.isIn rfl HLc.out.ls.ow.view)
          clear hL hY HL8 HA8 HL6 c0 c1 c2 c3 c4 hq8
          go_wp2_with fail
          refine (l9Has_c va zs.length vc zs ⟨p, x1.k, x1.e, x1.f, x1.s, x1.n⟩ _ (by omega) HI.out).mono ?_
          rintro d w10 ⟨rfl, hb10⟩
          have HL10 := hid (HLc.out.below hb10)
          have z0 := (hb10.cell (p := ⟨Y, 0, none⟩) hYl).trans y0
          have z1 := (hb10.cell (p := ⟨Y, 1, none⟩) hYl).trans y1
          have z2 := (hb10.cell (p := ⟨Y, 2, none⟩) hYl).trans y2
          have z3 := (hb10.cell (p := ⟨Y, 3, none⟩) hYl).trans y3
          have z4 := (hb10.cell (p := ⟨Y, 4, none⟩) hYl).trans y4
          have z5 := (hb10.cell (p := ⟨Y, 5, none⟩) hYl).trans y5
          have hYl' := Nat.lt_of_lt_of_le hYl hb10.size
          clear y0 y1 y2 y3 y4 y5 hYl hb10 HLc HI
          cases hh : hasSh zs ⟨p, x1.k, x1.e, x1.f, x1.s, x1.n⟩
          · clear hh
            go_wp2_with (first
              | (at_builtin; refine wpList_append_own _ rfl _ _ 24 rfl w.heap.size 45 i0 (.agg #[.int .i64 0, .int .i64 0, .int .i64 0, .int .i64 0, .int .i64 0, .int .i64 0]) 6 48 hun hi hz0 hz1 hz2 rfl (by decide) _ zs.length (flatSh zs) rfl (HL10.out.ls.ow.alloc _) ⟨w10.heap.size, 0, none⟩ 1 1 [.int .i64 p, .int .i64 x1.k, .int .i64 x1.e, .int .i64 x1.f, .int .i64 x1.s, .int .i64 x1.n] rfl rfl (cell_six w10 _) (by simp [Value.oneCell']) (by unfold maxLen; omega) (by omega) (by have := HL10.out.ls.ds.gr.size; simp; omega) ?_)
              | fail)
            intro v' w11 hown' hgrow hnil
            have HN := hid ((HL10.out.below ((Below.refl _ _).alloc (Nat.le_refl _) _)).push ⟨p, x1.k, x1.e, x1.f, x1.s, x1.n⟩ ⟨p0, p1⟩ (ownSh_push hown') hgrow)
            clear hown' hgrow hnil
            obtain ⟨va', vc', rfl⟩ := HN.out.ls.ow.slice
            go_wp2
            exact ⟨⟨_, r - 1, va', vc', _, x1, rfl, by simp; omega, by simp; omega, by omega, HN⟩, by simp [intOf]; omega⟩
          · clear hh
            go_wp2
            exact ⟨⟨_, r - 1, va, vc, zs, x1, rfl, by simp; omega, by omega, by omega, HL10⟩, by simp [intOf]; omega⟩
    · have hr0 : r = 0 := by omega
      subst hr0
      go_wp2
      go_ret
      exact ⟨_, zs, kk, rfl, by omega, by omega, HL.out.ls⟩

end Go.Proofs.Ytdfhebmecbcegaa
