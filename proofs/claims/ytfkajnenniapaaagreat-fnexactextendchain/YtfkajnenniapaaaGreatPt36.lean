/- Contracts. -/
import Derived.Test.YtfkajnenniapaaaGreatPt35
namespace Go.Proofs.YtfkajnenniapaaaGreat
set_option maxRecDepth 100000
set_option maxHeartbeats 8000000
open Go.RowKit
set_option linter.unusedVariables false
set_option linter.unusedSimpArgs false

structure Mrk (w w' : World) : Prop where
 it : ∀ (a : Addr) (x : Int), w.cell? a = some (.int .i64 x) → ∃ y, w'.cell? a = some (.int .i64 y)
 sl : ∀ (a : Addr) (b : Option Addr) (n c : Nat), w.cell? a = some (.slice b n c) → w'.cell? a = some (.slice b n c)
 fr : ∀ a, w'.frozen? a = w.frozen? a
theorem Mrk.refl (w : World) : Mrk w w := ⟨fun _ x h => ⟨x, h⟩, fun _ _ _ _ h => h, fun _ => rfl⟩
theorem Mrk.trans {a b c : World} (h : Mrk a b) (k : Mrk b c) : Mrk a c :=
 ⟨fun q x e => by obtain ⟨y, e'⟩ := h.it q x e; exact k.it q y e', fun q b n c e => k.sl q b n c (h.sl q b n c e), fun q => (k.fr q).trans (h.fr q)⟩
theorem Mrk.set {w : World} {a : Addr} {x : Int} (h : w.cell? a = some (.int .i64 x)) (y : Int) : Mrk w (w.setCell a (.int .i64 y)) := by
 refine ⟨fun q z e => ?_, fun q b n c e => ?_, fun q => World.frozen?_setCell ..⟩
 ·by_cases hq : q = a
  ·subst hq
   exact ⟨y, by simp [go_sem, h]⟩
  ·exact ⟨z, by rw [World.cell?_setCell_other (h := fun e => hq e.symm)]; exact e⟩
 ·have hq : q ≠ a := fun e' => by subst e'; rw [h] at e; cases e
  rw [World.cell?_setCell_other (h := fun e => hq e.symm)]
  exact e
def IntRow (w : World) (g m : Nat) : Prop := (∀ j, j < m → ∃ x, w.cell? ⟨g, j, none⟩ = some (.int .i64 x)) ∧ ∀ j, w.frozen? ⟨g, j, none⟩ = false
theorem IntRow.mrk {w w' : World} {g m : Nat} (h : IntRow w g m) (k : Mrk w w') : IntRow w' g m :=
 ⟨fun j hj => by obtain ⟨x, e⟩ := h.1 j hj; exact k.it _ x e, fun j => (k.fr _).trans (h.2 j)⟩
theorem Chg.refl {lo hi : Nat} (w : World) : Chg lo hi w w := Chg.calls (Below.refl _ _)
structure MI (lo hi : Nat) (w0 w : World) (g m : Nat) : Prop where
 mr : Mrk w0 w
 ch : Chg lo hi w0 w
 rw : IntRow w g m
theorem MI.set {lo hi : Nat} {w0 w : World} {g m j : Nat} (h : MI lo hi w0 w g m) (hg : lo ≤ g ∧ g < hi) (hj : j < m) (y : Int) : MI lo hi w0 (w.setCell ⟨g, j, none⟩ (.int .i64 y)) g m := by
 obtain ⟨x, e⟩ := h.rw.1 j hj
 have hm := Mrk.set e y
 exact ⟨h.mr.trans hm, h.ch.trans (Chg.grown (grown_set w g j _) (fun q e => by cases e; exact hg)), h.rw.mrk hm⟩
theorem markIntsK_c (lo hi g n cap : Nat) (k0 : Int) (w : World) (hn : n ≤ 1048576) (h0 : 0 ≤ k0) (h1 : k0 ≤ 9000000000000000000) (hg : lo ≤ g ∧ g < hi) (h : IntRow w g (n)) :
  Calls Tryz.prog 48 #[.slice (some ⟨g, 0, none⟩) n cap, .int .i64 k0] w fun e w' => e = .returned (.int .i64 (k0 + 1 * (n : Int))) ∧ Mrk w w' ∧ Chg lo hi w w' := by
 have HO : Hid (MI lo hi w w g (n)) := ⟨Mrk.refl w, Chg.refl w, h⟩
 clear h
 have hn' : (n : Int) ≤ 1048576 := by omega
 go_enter Tryz.func48, Tryz.ntmps48
 go_wp2
 go_loopw [1, 5] (fun q i wr => ∃ (j : Nat), j ≤ n ∧ i = .int .i64 (j : Int) ∧ q = .int .i64 (k0 + 1 * (j : Int)) ∧ MI lo hi w wr g (n))
  (fun _ i _ => n - (intOf i).toNat)
 case atStart => exact ⟨0, Nat.zero_le _, rfl, by simp, HO.out⟩
 case round =>
  obtain ⟨j, hj, rfl, rfl, hmi⟩ := hrel
  have HG : Hid (MI lo hi w wr g (n)) := hmi
  have hroom := hmi.rw
  clear hmi
  by_cases hlt : j < n
  ·have hlt' : (j : Int) < (n : Int) := by omega
   obtain ⟨v0, c0⟩ := hroom.1 (j) (by omega)
   have f0 := hroom.2 (j)
   clear hroom
   go_wp2
   refine ⟨⟨j + 1, by omega, by go_num, ?_, ?_⟩, by simp [intOf]; omega⟩
   ·congr 1; omega
   ·exact (HG.out.set hg (show j < n by omega) _)
  ·have hjn : j = n := by omega
   subst hjn
   clear hroom
   go_wp2
   go_ret
   exact ⟨rfl, HG.out.mr, HG.out.ch⟩
theorem markRulesK_c (lo hi g n cap : Nat) (k0 : Int) (w : World) (hn : n ≤ 1048576) (h0 : 0 ≤ k0) (h1 : k0 ≤ 9000000000000000000) (hg : lo ≤ g ∧ g < hi) (h : IntRow w g (n * 8)) :
  Calls Tryz.prog 46 #[.slice (some ⟨g, 0, none⟩) n cap, .int .i64 k0] w fun e w' => e = .returned (.int .i64 (k0 + 8 * (n : Int))) ∧ Mrk w w' ∧ Chg lo hi w w' := by
 have HO : Hid (MI lo hi w w g (n * 8)) := ⟨Mrk.refl w, Chg.refl w, h⟩
 clear h
 have hn' : (n : Int) ≤ 1048576 := by omega
 go_enter Tryz.func46, Tryz.ntmps46
 go_wp2
 go_loopw [1, 5] (fun q i wr => ∃ (j : Nat), j ≤ n ∧ i = .int .i64 (j : Int) ∧ q = .int .i64 (k0 + 8 * (j : Int)) ∧ MI lo hi w wr g (n * 8))
  (fun _ i _ => n - (intOf i).toNat)
 case atStart => exact ⟨0, Nat.zero_le _, rfl, by simp, HO.out⟩
 case round =>
  obtain ⟨j, hj, rfl, rfl, hmi⟩ := hrel
  have HG : Hid (MI lo hi w wr g (n * 8)) := hmi
  have hroom := hmi.rw
  clear hmi
  by_cases hlt : j < n
  ·have hlt' : (j : Int) < (n : Int) := by omega
   obtain ⟨v0, c0⟩ := hroom.1 (j * 8) (by omega)
   have f0 := hroom.2 (j * 8)
   obtain ⟨v1, c1⟩ := hroom.1 (j * 8 + 1) (by omega)
   have f1 := hroom.2 (j * 8 + 1)
   obtain ⟨v2, c2⟩ := hroom.1 (j * 8 + 2) (by omega)
   have f2 := hroom.2 (j * 8 + 2)
   obtain ⟨v3, c3⟩ := hroom.1 (j * 8 + 3) (by omega)
   have f3 := hroom.2 (j * 8 + 3)
   obtain ⟨v4, c4⟩ := hroom.1 (j * 8 + 4) (by omega)
   have f4 := hroom.2 (j * 8 + 4)
   obtain ⟨v5, c5⟩ := hroom.1 (j * 8 + 5) (by omega)
   have f5 := hroom.2 (j * 8 + 5)
   obtain ⟨v6, c6⟩ := hroom.1 (j * 8 + 6) (by omega)
   have f6 := hroom.2 (j * 8 + 6)
   obtain ⟨v7, c7⟩ := hroom.1 (j * 8 + 7) (by omega)
   have f7 := hroom.2 (j * 8 + 7)
   clear hroom
   go_wp2
   refine ⟨⟨j + 1, by omega, by go_num, ?_, ?_⟩, by simp [intOf]; omega⟩
   ·congr 1; omega
   ·exact ((((((((HG.out.set hg (show j * 8 < n * 8 by omega) _).set hg (show j * 8 + 1 < n * 8 by omega) _).set hg (show j * 8 + 2 < n * 8 by omega) _).set hg (show j * 8 + 3 < n * 8 by omega) _).set hg (show j * 8 + 4 < n * 8 by omega) _).set hg (show j * 8 + 5 < n * 8 by omega) _).set hg (show j * 8 + 6 < n * 8 by omega) _).set hg (show j * 8 + 7 < n * 8 by omega) _)
  ·have hjn : j = n := by omega
   subst hjn
   clear hroom
   go_wp2
   go_ret
   exact ⟨rfl, HG.out.mr, HG.out.ch⟩
theorem markPartsK_c (lo hi g n cap : Nat) (k0 : Int) (w : World) (hn : n ≤ 1048576) (h0 : 0 ≤ k0) (h1 : k0 ≤ 9000000000000000000) (hg : lo ≤ g ∧ g < hi) (h : IntRow w g (n * 5)) :
  Calls Tryz.prog 80 #[.slice (some ⟨g, 0, none⟩) n cap, .int .i64 k0] w fun e w' => e = .returned (.int .i64 (k0 + 5 * (n : Int))) ∧ Mrk w w' ∧ Chg lo hi w w' := by
 have HO : Hid (MI lo hi w w g (n * 5)) := ⟨Mrk.refl w, Chg.refl w, h⟩
 clear h
 have hn' : (n : Int) ≤ 1048576 := by omega
 go_enter Tryz.func80, Tryz.ntmps80
 go_wp2
 go_loopw [1, 5] (fun q i wr => ∃ (j : Nat), j ≤ n ∧ i = .int .i64 (j : Int) ∧ q = .int .i64 (k0 + 5 * (j : Int)) ∧ MI lo hi w wr g (n * 5))
  (fun _ i _ => n - (intOf i).toNat)
 case atStart => exact ⟨0, Nat.zero_le _, rfl, by simp, HO.out⟩
 case round =>
  obtain ⟨j, hj, rfl, rfl, hmi⟩ := hrel
  have HG : Hid (MI lo hi w wr g (n * 5)) := hmi
  have hroom := hmi.rw
  clear hmi
  by_cases hlt : j < n
  ·have hlt' : (j : Int) < (n : Int) := by omega
   obtain ⟨v0, c0⟩ := hroom.1 (j * 5) (by omega)
   have f0 := hroom.2 (j * 5)
   obtain ⟨v1, c1⟩ := hroom.1 (j * 5 + 1) (by omega)
   have f1 := hroom.2 (j * 5 + 1)
   obtain ⟨v2, c2⟩ := hroom.1 (j * 5 + 2) (by omega)
   have f2 := hroom.2 (j * 5 + 2)
   obtain ⟨v3, c3⟩ := hroom.1 (j * 5 + 3) (by omega)
   have f3 := hroom.2 (j * 5 + 3)
   obtain ⟨v4, c4⟩ := hroom.1 (j * 5 + 4) (by omega)
   have f4 := hroom.2 (j * 5 + 4)
   clear hroom
   go_wp2
   refine ⟨⟨j + 1, by omega, by go_num, ?_, ?_⟩, by simp [intOf]; omega⟩
   ·congr 1; omega
   ·exact (((((HG.out.set hg (show j * 5 < n * 5 by omega) _).set hg (show j * 5 + 1 < n * 5 by omega) _).set hg (show j * 5 + 2 < n * 5 by omega) _).set hg (show j * 5 + 3 < n * 5 by omega) _).set hg (show j * 5 + 4 < n * 5 by omega) _)
  ·have hjn : j = n := by omega
   subst hjn
   clear hroom
   go_wp2
   go_ret
   exact ⟨rfl, HG.out.mr, HG.out.ch⟩
def FormK (lo hi : Nat) (w : World) (x : FormI) : Prop := x.n ≤ 1048576 ∧ ∃ g, x.a = some ⟨g, 0, none⟩ ∧ lo ≤ g ∧ g < hi ∧ IntRow w g (x.n * 5)
theorem FormK.mrk {lo hi : Nat} {w w' : World} {x : FormI} (h : FormK lo hi w x) (k : Mrk w w') : FormK lo hi w' x := by
 obtain ⟨h0, g, h1, h2, h3, h4⟩ := h
 exact ⟨h0, g, h1, h2, h3, h4.mrk k⟩
def FormTab (lo hi : Nat) (w : World) (g n : Nat) (fs : List FormI) : Prop := fs.length = n ∧ ∀ (k : Nat) (x : FormI), fs[k]? = some x → w.cell? ⟨g, k, none⟩ = some (.slice x.a x.n x.cap) ∧ FormK lo hi w x
theorem FormTab.mrk {lo hi : Nat} {w w' : World} {g n : Nat} {fs : List FormI} (h : FormTab lo hi w g n fs) (k : Mrk w w') : FormTab lo hi w' g n fs :=
 ⟨h.1, fun j x e => ⟨k.sl _ _ _ _ (h.2 j x e).1, (h.2 j x e).2.mrk k⟩⟩
theorem markFormsK_c (lo hi g n cap : Nat) (k0 : Int) (fs : List FormI) (w : World) (hn : n ≤ 1048576) (h0 : 0 ≤ k0) (h1 : k0 ≤ 8000000000000000000) (h : FormTab lo hi w g n fs) :
  Calls Tryz.prog 47 #[.slice (some ⟨g, 0, none⟩) n cap, .int .i64 k0] w fun e w' => (∃ k : Int, e = .returned (.int .i64 k) ∧ k0 ≤ k ∧ k ≤ k0 + 5242880 * (n : Int)) ∧ Mrk w w' ∧ Chg lo hi w w' := by
 have HO : Hid (FormTab lo hi w g n fs) := h
 clear h
 have hn' : (n : Int) ≤ 1048576 := by omega
 go_enter Tryz.func47, Tryz.ntmps47
 go_wp2
 go_loopw [1, 5] (fun q i wr => ∃ (j : Nat) (k : Int), j ≤ n ∧ i = .int .i64 (j : Int) ∧ q = .int .i64 k ∧ (k0 ≤ k ∧ k ≤ k0 + 5242880 * (j : Int)) ∧ Mrk w wr ∧ Chg lo hi w wr)
  (fun _ i _ => n - (intOf i).toNat)
 case atStart => exact ⟨0, k0, Nat.zero_le _, rfl, rfl, ⟨by omega, by omega⟩, Mrk.refl _, Chg.refl _⟩
 case round =>
  obtain ⟨j, k, hj, rfl, rfl, ⟨hk0, hk1⟩, hmk, hch⟩ := hrel
  have HM : Hid (Mrk w wr ∧ Chg lo hi w wr) := ⟨hmk, hch⟩
  have HT := HO.out.mrk hmk
  clear hmk hch
  by_cases hlt : j < n
  ·have hlt' : (j : Int) < (n : Int) := by omega
   obtain ⟨x, hx⟩ : ∃ x, fs[j]? = some x := ⟨_, List.getElem?_eq_getElem (by rw [HT.1]; exact hlt)⟩
   obtain ⟨hc, hxn, gp, hxa, hlo, hhi, hrow⟩ := HT.2 j x hx
   have HR : Hid (IntRow wr gp (x.n * 5)) := hrow
   have hgl := zL wr ⟨g, j, none⟩ hc
   rw [hxa] at hc
   clear hx hrow HT
   go_wp2_with fail
   refine (markPartsK_c lo hi gp x.n x.cap k wr hxn (by omega) (by omega) ⟨hlo, hhi⟩ HR.out).mono ?_
   rintro d w1 ⟨rfl, hm1, hc1⟩
   have HM1 : Hid (Mrk w w1 ∧ Chg lo hi w w1) := ⟨HM.out.1.trans hm1, HM.out.2.trans hc1⟩
   have hxn' : (x.n : Int) ≤ 1048576 := by omega
   clear hm1 hc1 HM hc
   go_wp2_with fail
   exact ⟨⟨j + 1, k + 5 * (x.n : Int), by omega, by go_num, rfl, ⟨by omega, by simp; omega⟩, HM1.out.1, HM1.out.2⟩, by simp [intOf]; omega⟩
  ·have hjn : j = n := by omega
   subst hjn
   go_wp2_with fail
   go_ret
   exact ⟨⟨k, rfl, hk0, hk1⟩, HM.out.1, HM.out.2⟩

end Go.Proofs.YtfkajnenniapaaaGreat
