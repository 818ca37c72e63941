/- Contracts. -/
import Derived.Test.YtfkajnenniapaaaGreatPt37
import Derived.Test.YtfkajnenniapaaaGreatPt38
namespace Go.Proofs.YtfkajnenniapaaaGreat
set_option maxRecDepth 100000
set_option maxHeartbeats 8000000
open Go.RowKit
set_option linter.unusedVariables false
set_option linter.unusedSimpArgs false

theorem IntRow.below {w w' : World} {g m : Nat} (h : IntRow w g m) (hg : g < w.heap.size) (hb : Below w.heap.size w w') : IntRow w' g m :=
 ⟨fun j hj => by obtain ⟨x, e⟩ := h.1 j hj; exact ⟨x, (hb.cell (p := ⟨g, j, none⟩) hg).trans e⟩, fun j => (hb.frozen (p := ⟨g, j, none⟩) hg).trans (h.2 j)⟩
theorem FormK.below {lo hi : Nat} {w w' : World} {x : FormI} (h : FormK lo hi w x) (hh : hi ≤ w.heap.size) (hb : Below w.heap.size w w') : FormK lo hi w' x := by
 obtain ⟨h0, g, h1, h2, h3, h4⟩ := h
 exact ⟨h0, g, h1, h2, h3, h4.below (by omega) hb⟩
theorem FormTab.below {lo hi : Nat} {w w' : World} {g n : Nat} {fs : List FormI} (h : FormTab lo hi w g n fs) (hh : hi ≤ w.heap.size) (hb : Below w.heap.size w w') : FormTab lo hi w' g n fs :=
 ⟨h.1, fun j x e => ⟨(hb.cell (p := ⟨g, j, none⟩) (zL w ⟨g, j, none⟩ (h.2 j x e).1)).trans (h.2 j x e).1, (h.2 j x e).2.below hh hb⟩⟩
theorem ConfK.below {lo hi : Nat} {w w' : World} {d : ConfI} (h : ConfK lo hi w d) (hh : hi ≤ w.heap.size) (hb : Below w.heap.size w w') : ConfK lo hi w' d := by
 obtain ⟨⟨a0, g, a1, a2, a3, a4⟩, ⟨b0, g', b1, b2⟩, ⟨c0, g'', c1, c2, c3, c4⟩⟩ := h
 exact ⟨⟨a0, g, a1, a2, a3, a4.below (by omega) hb⟩, ⟨b0, g', b1, b2.below hh hb⟩, ⟨c0, g'', c1, c2, c3, c4.below (by omega) hb⟩⟩
theorem ConfTab.below {lo hi : Nat} {w w' : World} {T n : Nat} {ds : List ConfI} (h : ConfTab lo hi w T n ds) (hh : hi ≤ w.heap.size) (hb : Below w.heap.size w w') : ConfTab lo hi w' T n ds := by
 have hT : T < w.heap.size := by have := h.lo.2; omega
 refine ⟨h.ln, fun j d e => ?_, fun o => (hb.frozen (p := ⟨T, o, none⟩) hT).trans (h.fr o), h.lo⟩
 obtain ⟨⟨x, h0⟩, ⟨y, h1⟩, h2, h3, h4, h5⟩ := h.at5 j d e
 have k : ∀ o, w'.cell? ⟨T, o, none⟩ = w.cell? ⟨T, o, none⟩ := fun o => hb.cell (p := ⟨T, o, none⟩) hT
 exact ⟨⟨x, (k _).trans h0⟩, ⟨y, (k _).trans h1⟩, (k _).trans h2, (k _).trans h3, (k _).trans h4, h5.below hh hb⟩
structure HoldB (P : World → Prop) (W : World) : Prop where
 out : P W
 kept : ∀ X X' : World, P X → Below X.heap.size X X' → P X'
theorem HoldB.below {P : World → Prop} {W W' : World} (h : HoldB P W) (hb : Below W.heap.size W W') : HoldB P W' := ⟨h.kept _ _ h.out hb, h.kept⟩
def CpB (lo hi n : Nat) (cs : List ConfI) (X : World) : Prop := ∃ ds, ConfsIn X (some ⟨lo, 0, none⟩) n ds ∧ SameCs cs ds ∧ ConfsLe 1048576 ds ∧ ConfTab lo hi X lo n ds ∧ hi ≤ X.heap.size
theorem ConfsTo.cpB {w0 w wA : World} {a : Option Addr} {n : Nat} {cs ds : List ConfI} (h : ConfsTo w0 w n cs ds n) (hn : n ≤ 1048576) (hi : ConfsIn wA a n cs) (hl : ∀ (k : Nat) c, cs[k]? = some c → ConfLe 1048576 c) : HoldB (CpB w0.heap.size w.heap.size n cs) w :=
 ⟨⟨ds, h.isIn, h.same hi.len, h.le hn hi hl, h.tab (h.le hn hi hl).1, Nat.le_refl _⟩, fun X X' hX hb => by
  obtain ⟨es, h1, h2, h3, h4, h5⟩ := hX
  exact ⟨es, h1.below hb, h2, h3, h4.below h5 hb, Nat.le_trans h5 hb.size⟩⟩
theorem eqCpB_c {lo hi lo' hi' n : Nat} {cs : List ConfI} (ca cb : Nat) {W : World} (hn : n ≤ 1048576) (h : CpB lo hi n cs W) (h' : CpB lo' hi' n cs W) :
  Calls Tryz.prog 13 #[.slice (some ⟨lo, 0, none⟩) n ca, .slice (some ⟨lo', 0, none⟩) n cb] W fun e w' => e = .returned (.bool true) ∧ Below W.heap.size W w' := by
 obtain ⟨ds, h1, h2, h3, _, _⟩ := h
 obtain ⟨es, k1, k2, _, _, _⟩ := h'
 exact eqConfigs_same _ _ n ca cb ds es W hn h3.1 (sameCs_two h2 k2) h1 k1
theorem markCpB_c {lo hi n : Nat} {cs : List ConfI} (ca : Nat) (k0 : Int) {W : World} (hn : n ≤ 1048576) (h0 : 0 ≤ k0) (h1 : k0 ≤ 1000000000000000000) (h : CpB lo hi n cs W) :
  Calls Tryz.prog 15 #[.slice (some ⟨lo, 0, none⟩) n ca, .int .i64 k0] W fun e w' => ∃ k : Int, e = .returned (.int .i64 k) ∧ (k0 ≤ k ∧ k ≤ k0 + 5497567576066 * (n : Int)) ∧ Chg lo hi W w' := by
 obtain ⟨ds, _, _, _, h4, _⟩ := h
 refine (markConfigsK_c lo hi lo n ca k0 ds W hn h0 h1 h4).mono ?_
 rintro e w' ⟨⟨k, rfl, k1, k2⟩, _, hc⟩
 exact ⟨k, rfl, ⟨k1, k2⟩, hc⟩
theorem markSharesBig_c (g n cap : Nat) (k0 : Int) (w : World) (hn : n ≤ 1048576) (h0 : 0 ≤ k0) (h1 : k0 ≤ 9000000000000000000) (h : ShRoom w g n) :
  Calls Tryz.prog 16 #[.slice (some ⟨g, 0, none⟩) n cap, .int .i64 k0] w fun e w' => e = .returned (.int .i64 (k0 + 6 * (n : Int))) ∧ w.grownBy w' (some g) := by
 have HO : Hid (ShRoom w g n) := h
 clear h
 have hn' : (n : Int) ≤ 1048576 := by omega
 go_enter Tryz.func16, Tryz.ntmps16
 go_wp2
 go_loopw [1, 5] (fun q i wr => ∃ (j : Nat), j ≤ n ∧ i = .int .i64 (j : Int) ∧ q = .int .i64 (k0 + 6 * (j : Int)) ∧ ShRoom wr g n ∧ w.grownBy wr (some g))
  (fun _ i _ => n - (intOf i).toNat)
 case atStart => exact ⟨0, Nat.zero_le _, rfl, by simp, HO.out, grown_refl _ _⟩
 case round =>
  obtain ⟨j, hj, rfl, rfl, hroom, hgr⟩ := hrel
  have HG : Hid (ShRoom wr g n ∧ w.grownBy wr (some g)) := ⟨hroom, hgr⟩
  by_cases hlt : j < n
  ·have hlt' : (j : Int) < (n : Int) := by omega
   obtain ⟨v0, c0⟩ := hroom.1 (j * 6) (by omega)
   have f0 := hroom.2 (j * 6)
   obtain ⟨v1, c1⟩ := hroom.1 (j * 6 + 1) (by omega)
   have f1 := hroom.2 (j * 6 + 1)
   obtain ⟨v2, c2⟩ := hroom.1 (j * 6 + 2) (by omega)
   have f2 := hroom.2 (j * 6 + 2)
   obtain ⟨v3, c3⟩ := hroom.1 (j * 6 + 3) (by omega)
   have f3 := hroom.2 (j * 6 + 3)
   obtain ⟨v4, c4⟩ := hroom.1 (j * 6 + 4) (by omega)
   have f4 := hroom.2 (j * 6 + 4)
   obtain ⟨v5, c5⟩ := hroom.1 (j * 6 + 5) (by omega)
   have f5 := hroom.2 (j * 6 + 5)
   clear hroom hgr
   go_wp2
   refine ⟨⟨j + 1, by omega, by go_num, ?_, ?_, ?_⟩, by simp [intOf]; omega⟩
   ·congr 1; omega
   ·exact ((((((HG.out.1.set _ _).set _ _).set _ _).set _ _).set _ _).set _ _)
   ·exact (grown_tr (grown_tr (grown_tr (grown_tr (grown_tr (grown_tr HG.out.2 (grown_set _ _ _ _)) (grown_set _ _ _ _)) (grown_set _ _ _ _)) (grown_set _ _ _ _)) (grown_set _ _ _ _)) (grown_set _ _ _ _))
  ·have hjn : j = n := by omega
   subst hjn
   go_wp2
   go_ret
   exact ⟨rfl, hgr⟩

end Go.Proofs.YtfkajnenniapaaaGreat
