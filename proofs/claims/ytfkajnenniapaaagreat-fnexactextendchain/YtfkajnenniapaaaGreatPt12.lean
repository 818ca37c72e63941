/- Contracts. -/
import Derived.Test.YtfkajnenniapaaaGreatPt03
import Derived.OpenShut
import Derived.ChangeSame
import Derived.Deep.Slices
namespace Go.Proofs.YtfkajnenniapaaaGreat
set_option maxRecDepth 100000
set_option maxHeartbeats 8000000
open Go.RowKit
set_option linter.unusedVariables false
set_option linter.unusedSimpArgs false

structure ShI where
 r : Int
 k : Int
 e : Int
 f : Int
 s : Int
 n : Int
deriving DecidableEq, Inhabited
def ShAt (w : World) (b o : Nat) (x : ShI) : Prop := w.cell? ⟨b, o, none⟩ = some (.int .i64 x.r) ∧ w.cell? ⟨b, o + 1, none⟩ = some (.int .i64 x.k) ∧ w.cell? ⟨b, o + 2, none⟩ = some (.int .i64 x.e) ∧ w.cell? ⟨b, o + 3, none⟩ = some (.int .i64 x.f) ∧ w.cell? ⟨b, o + 4, none⟩ = some (.int .i64 x.s) ∧ w.cell? ⟨b, o + 5, none⟩ = some (.int .i64 x.n)
theorem ShAt.below {w w' : World} {B b o : Nat} {x : ShI} (h : ShAt w b o x) (hb : Below B w w') (hB : b < B) : ShAt w' b o x :=
 ⟨(hb.cell (p := ⟨b, o, none⟩) hB).trans h.1, (hb.cell (p := ⟨b, o + 1, none⟩) hB).trans h.2.1, (hb.cell (p := ⟨b, o + 2, none⟩) hB).trans h.2.2.1, (hb.cell (p := ⟨b, o + 3, none⟩) hB).trans h.2.2.2.1, (hb.cell (p := ⟨b, o + 4, none⟩) hB).trans h.2.2.2.2.1, (hb.cell (p := ⟨b, o + 5, none⟩) hB).trans h.2.2.2.2.2⟩
def ShIn (w : World) (a : Option Addr) (n : Nat) (gs : List ShI) : Prop := gs.length = n ∧ (0 < n → ∃ b off, a = some ⟨b, off, none⟩ ∧ ∀ k x, gs[k]? = some x → ShAt w b (off + k * 6) x)
theorem ShIn.below {w w' : World} {a : Option Addr} {n : Nat} {gs : List ShI} (h : ShIn w a n gs) (hb : Below w.heap.size w w') : ShIn w' a n gs := by
 refine ⟨h.1, fun hn => ?_⟩
 obtain ⟨b, off, e, k⟩ := h.2 hn
 exact ⟨b, off, e, fun j x hx => (k j x hx).below hb (zL w ⟨b, off + j * 6, none⟩ (k j x hx).1)⟩
theorem ShIn.at {w : World} {a : Option Addr} {n : Nat} {gs : List ShI} (h : ShIn w a n gs) {k : Nat} (hk : k < n) : ∃ b off x, a = some ⟨b, off, none⟩ ∧ gs[k]? = some x ∧ ShAt w b (off + k * 6) x ∧ b < w.heap.size := by
 obtain ⟨b, off, e, q⟩ := h.2 (by omega)
 have hx := List.getElem?_eq_getElem (l := gs) (i := k) (by rw [h.1]; exact hk)
 exact ⟨b, off, _, e, hx, q k _ hx, zL w ⟨b, off + k * 6, none⟩ (q k _ hx).1⟩
def ShsAt (w : World) (g : Nat) (gs : List ShI) : Prop := ∀ k x, gs[k]? = some x → ShAt w g (k * 6) x
theorem ShsAt.below {w w' : World} {g : Nat} {gs : List ShI} (h : ShsAt w g gs) (hb : Below w.heap.size w w') : ShsAt w' g gs := fun k x e =>
 (h k x e).below hb (zL w ⟨g, k * 6, none⟩ (h k x e).1)
theorem ShIn.of {w : World} {g n : Nat} {gs : List ShI} (hl : gs.length = n) (h : ShsAt w g gs) : ShIn w (some ⟨g, 0, none⟩) n gs :=
 ⟨hl, fun _ => ⟨g, 0, rfl, fun k x e => by rw [Nat.zero_add]; exact h k x e⟩⟩
def ShRoom (w : World) (g n : Nat) : Prop := (∀ j, j < n * 6 → ∃ v, w.cell? ⟨g, j, none⟩ = some v) ∧ ∀ j, w.frozen? ⟨g, j, none⟩ = false
abbrev ShPut (w : World) (g o : Nat) (s : ShI) : World := ((((((w.setCell ⟨g, o, none⟩ (.int .i64 s.r)).setCell ⟨g, o + 1, none⟩ (.int .i64 s.k)).setCell ⟨g, o + 2, none⟩ (.int .i64 s.e)).setCell ⟨g, o + 3, none⟩ (.int .i64 s.f)).setCell ⟨g, o + 4, none⟩ (.int .i64 s.s)).setCell ⟨g, o + 5, none⟩ (.int .i64 s.n))
theorem ShPut_other (w : World) (g o : Nat) (s : ShI) (a : Addr) (h : ∀ j, j < 6 → a ≠ ⟨g, o + j, none⟩) : (ShPut w g o s).cell? a = w.cell? a := by
 rw [World.cell?_setCell_other (h := Ne.symm (h 5 (by omega))), World.cell?_setCell_other (h := Ne.symm (h 4 (by omega))), World.cell?_setCell_other (h := Ne.symm (h 3 (by omega))), World.cell?_setCell_other (h := Ne.symm (h 2 (by omega))), World.cell?_setCell_other (h := Ne.symm (h 1 (by omega))), World.cell?_setCell_other (h := Ne.symm (a := a) (b := ⟨g, o, none⟩) (by simpa using h 0 (by omega)))]
theorem ShPut_at (w : World) (g o : Nat) (s : ShI) (h : ∀ j, j < 6 → ∃ v, w.cell? ⟨g, o + j, none⟩ = some v) : ShAt (ShPut w g o s) g o s := by
 obtain ⟨v0, h0⟩ := h 0 (by omega)
 obtain ⟨v1, h1⟩ := h 1 (by omega)
 obtain ⟨v2, h2⟩ := h 2 (by omega)
 obtain ⟨v3, h3⟩ := h 3 (by omega)
 obtain ⟨v4, h4⟩ := h 4 (by omega)
 obtain ⟨v5, h5⟩ := h 5 (by omega)
 rw [Nat.add_zero] at h0
 refine ⟨?_, ?_, ?_, ?_, ?_, ?_⟩ <;> simp [go_sem, h0, h1, h2, h3, h4, h5]
theorem ShPut_room {w : World} {g n k : Nat} {zs : List ShI} {s : ShI} (hroom : ShRoom w g n) (hd : ShsAt w g (zs.take k)) (hs : zs[k]? = some s) (hk : k < n) :
  ShRoom (ShPut w g (k * 6) s) g n ∧ ShsAt (ShPut w g (k * 6) s) g (zs.take (k + 1)) := by
 have hr := ShPut_at w g (k * 6) s (fun j hj => hroom.1 (k * 6 + j) (by omega))
 refine ⟨⟨fun j hj => ?_, fun j => ?_⟩, fun i r e => ?_⟩
 ·by_cases h : k * 6 ≤ j ∧ j < k * 6 + 6
  ·have hj' : j = k * 6 ∨ j = k * 6 + 1 ∨ j = k * 6 + 2 ∨ j = k * 6 + 3 ∨ j = k * 6 + 4 ∨ j = k * 6 + 5 := by omega
   obtain ⟨h0, h1, h2, h3, h4, h5⟩ := hr
   rcases hj' with rfl | rfl | rfl | rfl | rfl | rfl
   ·exact ⟨_, h0⟩
   ·exact ⟨_, h1⟩
   ·exact ⟨_, h2⟩
   ·exact ⟨_, h3⟩
   ·exact ⟨_, h4⟩
   ·exact ⟨_, h5⟩
  ·rw [ShPut_other w g (k * 6) s ⟨g, j, none⟩ (fun i hi e => by have e2 := congrArg Addr.off e; simp only at e2; omega)]
   exact hroom.1 j hj
 ·simp only [World.frozen?_setCell]
  exact hroom.2 j
 ·rw [List.getElem?_take] at e
  split at e
  ·by_cases hik : i = k
   ·subst hik
    rw [hs] at e
    cases e
    exact hr
   ·have hi : i < k := by omega
    have h1 := hd i r (by rw [List.getElem?_take, if_pos hi]; exact e)
    obtain ⟨h0, h1, h2, h3, h4, h5⟩ := h1
    refine ⟨?_, ?_, ?_, ?_, ?_, ?_⟩
    ·rw [ShPut_other w g (k * 6) s ⟨g, i * 6, none⟩ (fun j hj e => by have e2 := congrArg Addr.off e; simp only at e2; omega)]; exact h0
    ·rw [ShPut_other w g (k * 6) s ⟨g, i * 6 + 1, none⟩ (fun j hj e => by have e2 := congrArg Addr.off e; simp only at e2; omega)]; exact h1
    ·rw [ShPut_other w g (k * 6) s ⟨g, i * 6 + 2, none⟩ (fun j hj e => by have e2 := congrArg Addr.off e; simp only at e2; omega)]; exact h2
    ·rw [ShPut_other w g (k * 6) s ⟨g, i * 6 + 3, none⟩ (fun j hj e => by have e2 := congrArg Addr.off e; simp only at e2; omega)]; exact h3
    ·rw [ShPut_other w g (k * 6) s ⟨g, i * 6 + 4, none⟩ (fun j hj e => by have e2 := congrArg Addr.off e; simp only at e2; omega)]; exact h4
    ·rw [ShPut_other w g (k * 6) s ⟨g, i * 6 + 5, none⟩ (fun j hj e => by have e2 := congrArg Addr.off e; simp only at e2; omega)]; exact h5
  ·cases e
theorem ShPut_below {w0 w : World} {B g o : Nat} (h : Below B w0 w) (hg : B ≤ g) (s : ShI) : Below B w0 (ShPut w g o s) :=
 h.setCell hg _ |>.setCell hg _ |>.setCell hg _ |>.setCell hg _ |>.setCell hg _ |>.setCell hg _
theorem Tryz.info76 : (Tryz.prog.info? 76).map (fun i => (i.zero, i.size, i.bytes)) = some (some (.agg #[.int .i64 0, .int .i64 0, .int .i64 0, .int .i64 0, .int .i64 0, .int .i64 0]), 6, 48) := by kernel_rfl
theorem toShare_c (x : ShI) (w : World) : Calls Tryz.prog 37 #[.agg #[.int .i64 x.r, .int .i64 x.k, .int .i64 x.e, .int .i64 x.f, .int .i64 x.s, .int .i64 x.n]] w fun e w' => e = .returned (.agg #[.int .i64 x.r, .int .i64 x.k, .int .i64 x.e, .int .i64 x.f, .int .i64 x.s, .int .i64 x.n]) ∧ Below w.heap.size w w' := by
 go_enter Tryz.func37, Tryz.ntmps37
 go_wp2
 go_returns
 exact ⟨rfl, by go_grown⟩
theorem toShares_room (a : Option Addr) (n cap : Nat) (zs : List ShI) (w : World) (hn : n ≤ 1048576) (h : ShIn w a n zs) :
  Calls Tryz.prog 10 #[.slice a n cap] w fun e w' => e = .returned (.slice (some ⟨w.heap.size, 0, none⟩) n n) ∧ ShsAt w' w.heap.size zs ∧ w.heap.size < w'.heap.size ∧ Below w.heap.size w w' ∧ ShRoom w' w.heap.size n := by
 obtain ⟨i0, hi, hz0, hz1, hz2⟩ := info_parts Tryz.info76
 obtain ⟨wm, hmk, hownm, hgrm⟩ := run_make_full (P := Tryz.prog) (w := w) w.heap.size 32 76 i0 (.agg #[.int .i64 0, .int .i64 0, .int .i64 0, .int .i64 0, .int .i64 0, .int .i64 0]) 6 Tryz.underlying32 hi hz0 hz1 .i64 .i64 n (by rw [hz2]; omega) (by unfold maxLen; omega) (Nat.le_refl _)
 have H : Hid (ShIn w a n zs) := h
 have hz : Hid (zs.length = n) := h.1
 clear h
 have HM : Hid (ShRoom wm w.heap.size n ∧ w.heap.size < wm.heap.size) := by
  refine ⟨⟨fun j hj => ?_, fun j => hownm.frozenAt j⟩, (hownm.lt _ rfl).2⟩
  have hl := hownm.1
  exact ⟨_, (hownm.cellAt j hj).trans (List.getElem?_eq_getElem (by omega))⟩
 clear hownm
 have HG : Hid (w.grownBy wm none) := hgrm
 clear hgrm
 have hn' : (n : Int) ≤ 1048576 := by omega
 go_enter Tryz.func10, Tryz.ntmps10
 go_wp2
 go_loopw [4] (fun i wr => ∃ k : Nat, k ≤ n ∧ i = .int .i64 (k : Int) ∧ ShRoom wr w.heap.size n ∧ ShsAt wr w.heap.size (zs.take k) ∧ w.heap.size < wr.heap.size ∧ Below w.heap.size w wr)
  (fun i _ => n - (intOf i).toNat)
 case atStart => exact ⟨0, Nat.zero_le _, rfl, HM.out.1, fun k r e => by simp at e, HM.out.2, (Below.refl _ _).grown HG.out (Nat.le_refl _) (fun k e => by cases e)⟩
 case round =>
  obtain ⟨k, hk, rfl, hroom, hdone, hlt0, hnx⟩ := hrel
  by_cases hlt : k < n
  ·obtain ⟨b, off, s, rfl, hs, hr, hb⟩ := H.out.at hlt
   have HS : Hid (zs[k]? = some s) := hs
   clear hs
   obtain ⟨h0, h1, h2, h3, h4, h5⟩ := hr.below hnx hb
   have HD : Hid (ShRoom wr w.heap.size n ∧ ShsAt wr w.heap.size (zs.take k)) := ⟨hroom, hdone⟩
   clear hroom hdone hr
   have hlt' : (k : Int) < (n : Int) := by omega
   go_wp2_with fail
   refine (toShare_c s _).mono ?_
   rintro e w1 ⟨rfl, hb1⟩
   obtain ⟨⟨hc, hf⟩, hd⟩ := HD.out
   have hz1 := hb1.size
   have HD1 : Hid (ShRoom w1 w.heap.size n ∧ ShsAt w1 w.heap.size (zs.take k) ∧ Below w.heap.size w w1) :=
    ⟨⟨fun j hj => by obtain ⟨v, e⟩ := hc j hj; exact ⟨v, (hb1.cell (p := ⟨w.heap.size, j, none⟩) hlt0).trans e⟩, fun j => (hb1.frozen (p := ⟨w.heap.size, j, none⟩) hlt0).trans (hf j)⟩, hd.below hb1, hnx.trans (hb1.mono hnx.size)⟩
   clear hc hf hd HD h0 h1 h2 h3 h4 h5
   obtain ⟨v0, c0⟩ := HD1.out.1.1 (k * 6) (by omega)
   obtain ⟨v1, c1⟩ := HD1.out.1.1 (k * 6 + 1) (by omega)
   obtain ⟨v2, c2⟩ := HD1.out.1.1 (k * 6 + 2) (by omega)
   obtain ⟨v3, c3⟩ := HD1.out.1.1 (k * 6 + 3) (by omega)
   obtain ⟨v4, c4⟩ := HD1.out.1.1 (k * 6 + 4) (by omega)
   obtain ⟨v5, c5⟩ := HD1.out.1.1 (k * 6 + 5) (by omega)
   have f0 := HD1.out.1.2 (k * 6)
   have f1 := HD1.out.1.2 (k * 6 + 1)
   have f2 := HD1.out.1.2 (k * 6 + 2)
   have f3 := HD1.out.1.2 (k * 6 + 3)
   have f4 := HD1.out.1.2 (k * 6 + 4)
   have f5 := HD1.out.1.2 (k * 6 + 5)
   have RM : Hid (ShRoom (ShPut w1 w.heap.size (k * 6) s) w.heap.size n ∧ ShsAt (ShPut w1 w.heap.size (k * 6) s) w.heap.size (zs.take (k + 1)) ∧ Below w.heap.size w (ShPut w1 w.heap.size (k * 6) s)) := by
    have h2 := ShPut_room HD1.out.1 HD1.out.2.1 HS.out hlt
    exact ⟨h2.1, h2.2, ShPut_below HD1.out.2.2 (Nat.le_refl _) s⟩
   go_wp2
   exact ⟨⟨k + 1, by omega, by go_num, RM.out.1, RM.out.2.1, by simp only [World.size_setCell]; omega, RM.out.2.2⟩, by simp [intOf]; omega⟩
  ·have hkn : k = n := by omega
   subst hkn
   rw [List.take_of_length_le (by rw [hz.out]; exact Nat.le_refl _)] at hdone
   go_wp2
   go_ret
   exact ⟨rfl, hdone, hlt0, hnx, hroom⟩
theorem eqShare_same (x : ShI) (w : World) :
  Calls Tryz.prog 45 #[.agg #[.int .i64 x.r, .int .i64 x.k, .int .i64 x.e, .int .i64 x.f, .int .i64 x.s, .int .i64 x.n], .agg #[.int .i64 x.r, .int .i64 x.k, .int .i64 x.e, .int .i64 x.f, .int .i64 x.s, .int .i64 x.n]] w fun e w' => e = .returned (.bool true) ∧ Below w.heap.size w w' := by
 go_enter Tryz.func45, Tryz.ntmps45
 go_wp2
 go_ret
 exact ⟨rfl, by go_grown⟩
theorem eqShares_same (a b : Option Addr) (n c d : Nat) (zs : List ShI) (w : World) (hn : n ≤ 1048576) (ha : ShIn w a n zs) (hb : ShIn w b n zs) :
  Calls Tryz.prog 14 #[.slice a n c, .slice b n d] w fun e w' => e = .returned (.bool true) ∧ Below w.heap.size w w' := by
 have HA : Hid (ShIn w a n zs) := ha
 have HB : Hid (ShIn w b n zs) := hb
 clear ha hb
 have hn' : (n : Int) ≤ 1048576 := by omega
 go_enter Tryz.func14, Tryz.ntmps14
 go_wp2
 go_loopw [5] (fun i wr => ∃ k : Nat, k ≤ n ∧ i = .int .i64 (k : Int) ∧ Below w.heap.size w wr) (fun i _ => n - (intOf i).toNat)
 case atStart => exact ⟨0, Nat.zero_le _, rfl, Below.refl _ _⟩
 case round =>
  obtain ⟨k, hk, rfl, hnx⟩ := hrel
  by_cases hlt : k < n
  ·obtain ⟨b1, o1, s, e1, hs, hr, hl1⟩ := HA.out.at hlt
   obtain ⟨b2, o2, s2, e2, hs2, hr2, hl2⟩ := HB.out.at hlt
   obtain rfl : s = s2 := Option.some.inj (hs.symm.trans hs2)
   subst e1 e2
   clear hs hs2
   obtain ⟨h0, h1, h2, h3, h4, h5⟩ := hr.below hnx hl1
   obtain ⟨g0, g1, g2, g3, g4, g5⟩ := hr2.below hnx hl2
   clear hr hr2
   have hlt' : (k : Int) < (n : Int) := by omega
   have hb1 : b1 < wr.heap.size := zL wr ⟨b1, o1 + k * 6, none⟩ h0
   have hb2 : b2 < wr.heap.size := zL wr ⟨b2, o2 + k * 6, none⟩ g0
   go_wp2
   go_region_held3 (fun w' => (∀ b o, b < wr.heap.size → w'.cell? ⟨b, o, none⟩ = wr.cell? ⟨b, o, none⟩) ∧ Below wr.heap.size wr w') (first | exact hS | exact kp_drew _)
    (first | (go_at_call 45; refine (eqShare_same s _).mono ?_; rintro e w' ⟨rfl, hb1⟩; have hS := kp_step (by assumption) hb1))
   go_wp2
   exact ⟨⟨k + 1, by omega, by go_num, hnx.trans (hS.2.mono hnx.size)⟩, by simp [intOf]; omega⟩
  ·have hkn : k = n := by omega
   subst hkn
   go_wp2
   go_ret
   exact ⟨rfl, hnx⟩

section
open Go.RowKit Go.ChangeShapes Go.WideShapes
theorem Tryz.cells152 : Tryz.prog.cellsOf 152 = 2 := by kernel_rfl
theorem Tryz.cells2 : Tryz.prog.cellsOf 2 = 1 := by kernel_rfl
theorem list2 {α : Type} {l : List α} (h : l.length = 2) : ∃ a b, l = [a, b] := by
 match l, h with
 | [a, b], _ => exact ⟨a, b, rfl⟩
theorem list5 {α : Type} {l : List α} (h : l.length = 5) : ∃ a b c d e, l = [a, b, c, d, e] := by
 match l, h with
 | [a, b, c, d, e], _ => exact ⟨a, b, c, d, e, rfl⟩
theorem list8 {α : Type} {l : List α} (h : l.length = 8) : ∃ a b c d e f g i, l = [a, b, c, d, e, f, g, i] := by
 match l, h with
 | [a, b, c, d, e, f, g, i], _ => exact ⟨a, b, c, d, e, f, g, i, rfl⟩
theorem role_list {H : Type} {enc : TypeId × Value → H} {w : World} {base : Nat} {spare : Nat → Bool} {held : Bool} {fuel : Nat} {cs : List Value} {x : DataW H × List MemPlace} (h : DataW.trod enc Tryz.prog w base spare held fuel 152 cs = some x) :
  ∃ o n, cs = [.int .i64 o, .int .i64 n] := by
 obtain ⟨y0, y1, n, _, hl, h0, h1⟩ := trod_struct2 Tryz.underlying152 h
 rw [Tryz.cells152] at hl
 obtain ⟨c0, c1, rfl⟩ := list2 hl
 simp [Tryz.cells2] at h0 h1
 obtain ⟨a, e0, _, _⟩ := DataW.trod_int Tryz.underlying2 h0
 obtain ⟨b, e1, _, _⟩ := DataW.trod_int Tryz.underlying2 h1
 simp at e0 e1
 exact ⟨a, b, by rw [e0, e1]⟩
theorem Tryz.cells154 : Tryz.prog.cellsOf 154 = 8 := by kernel_rfl
theorem rule_list {H : Type} {enc : TypeId × Value → H} {w : World} {base : Nat} {spare : Nat → Bool} {held : Bool} {fuel : Nat} {cs : List Value} {x : DataW H × List MemPlace} (h : DataW.trod enc Tryz.prog w base spare held fuel 154 cs = some x) :
  ∃ r : RuleI, cs = [.int .i64 r.k, .int .i64 r.ho, .int .i64 r.hn, .int .i64 r.w, .int .i64 r.oo, .int .i64 r.on, .int .i64 r.to, .int .i64 r.tn] := by
 obtain ⟨xs, n, _, _, hl, hlen, hf⟩ := DataW.trod_struct Tryz.underlying154 h
 rw [Tryz.cells154] at hl
 obtain ⟨c0, c1, c2, c3, c4, c5, c6, c7, rfl⟩ := list8 hl
 obtain ⟨y0, y1, y2, y3, y4, rfl⟩ := list5 hlen
 have g0 := hf 0 _ rfl
 have g1 := hf 1 _ rfl
 have g2 := hf 2 _ rfl
 have g3 := hf 3 _ rfl
 have g4 := hf 4 _ rfl
 simp [Tryz.cells2, Tryz.cells152] at g0 g1 g2 g3 g4
 obtain ⟨k, e0, _, _⟩ := DataW.trod_int Tryz.underlying2 g0
 obtain ⟨wh, e3, _, _⟩ := DataW.trod_int Tryz.underlying2 g2
 obtain ⟨ho, hn, e1⟩ := role_list g1
 obtain ⟨oo, on, e4⟩ := role_list g3
 obtain ⟨tw, tn, e6⟩ := role_list g4
 simp at e0 e1 e3 e4 e6
 obtain ⟨rfl, rfl⟩ := e1
 obtain ⟨rfl, rfl⟩ := e4
 obtain ⟨rfl, rfl⟩ := e6
 subst e0 e3
 exact ⟨⟨k, ho, hn, wh, oo, on, tw, tn⟩, rfl⟩
theorem cells8 {w : World} {base : Nat} {a : Addr} {r : RuleI} (h : w.cells? base a 8 = some [.int .i64 r.k, .int .i64 r.ho, .int .i64 r.hn, .int .i64 r.w, .int .i64 r.oo, .int .i64 r.on, .int .i64 r.to, .int .i64 r.tn]) : a.spot = none ∧ RuleAt w a.block a.off r := by
 have e : List.range 8 = [0, 1, 2, 3, 4, 5, 6, 7] := rfl
 unfold World.cells? at h
 split at h
 ·rw [e] at h
  simp only [List.mapM_cons, List.mapM_nil, Option.bind_eq_bind, Option.bind_eq_some_iff, Option.pure_def, Option.some.injEq, List.cons.injEq] at h
  obtain ⟨x0, h0, y0, ⟨x1, h1, y1, ⟨x2, h2, y2, ⟨x3, h3, y3, ⟨x4, h4, y4, ⟨x5, h5, y5, ⟨x6, h6, y6, ⟨x7, h7, y7, rfl, e7⟩, e6⟩, e5⟩, e4⟩, e3⟩, e2⟩, e1⟩, e0, ee⟩ := h
  subst e0
  rw [← e1] at ee
  simp only [List.cons.injEq] at ee
  obtain ⟨rfl, ee⟩ := ee
  rw [← e2] at ee
  simp only [List.cons.injEq] at ee
  obtain ⟨rfl, ee⟩ := ee
  rw [← e3] at ee
  simp only [List.cons.injEq] at ee
  obtain ⟨rfl, ee⟩ := ee
  rw [← e4] at ee
  simp only [List.cons.injEq] at ee
  obtain ⟨rfl, ee⟩ := ee
  rw [← e5] at ee
  simp only [List.cons.injEq] at ee
  obtain ⟨rfl, ee⟩ := ee
  rw [← e6] at ee
  simp only [List.cons.injEq] at ee
  obtain ⟨rfl, ee⟩ := ee
  rw [← e7] at ee
  simp only [List.cons.injEq] at ee
  obtain ⟨rfl, _⟩ := ee
  obtain ⟨b, off, spot⟩ := a
  have hspot : spot = none := by simpa [Addr.add] using World.cell?_spot h0
  subst hspot
  simp only [Addr.add] at h0 h1 h2 h3 h4 h5 h6 h7
  exact ⟨rfl, by simpa using h0, by simpa using h1, by simpa using h2, by simpa using h3, by simpa using h4, by simpa using h5, by simpa using h6, by simpa using h7⟩
 ·cases h
instance : Inhabited RuleI := ⟨⟨0, 0, 0, 0, 0, 0, 0, 0⟩⟩
theorem rules_shape {H : Type} {enc : TypeId × Value → H} {w : World} {base : Nat} {spare : Nat → Bool} {held : Bool} {fuel : Nat} {a0 : Option Addr} {len cap : Nat} {x : DataW H × List MemPlace} (h : DataW.trod enc Tryz.prog w base spare held fuel 64 [.slice a0 len cap] = some x) :
  ∃ zs : List RuleI, RulesArg w a0 len zs := by
 rcases Go.Deep.open_slice Tryz.underlying64 h with ⟨hcs, _⟩ | ⟨a, l, c, m, n, D, Pl, hcs, hb, hl, hm, hmm, _, hel⟩
 ·simp at hcs
  obtain ⟨rfl, rfl, rfl⟩ := hcs
  exact ⟨[], ⟨rfl, fun h => by omega⟩, Nat.zero_le _⟩
 ·simp at hcs
  obtain ⟨rfl, rfl, rfl⟩ := hcs
  have hle : len ≤ m := by rw [hmm]; split <;> omega
  rw [Tryz.cells154] at hel
  have hk : ∀ i, i < len → ∃ r : RuleI, w.cells? base (a.add (i * 8)) 8 = some [.int .i64 r.k, .int .i64 r.ho, .int .i64 r.hn, .int .i64 r.w, .int .i64 r.oo, .int .i64 r.on, .int .i64 r.to, .int .i64 r.tn] := fun i hi => by
   obtain ⟨cs', hc, ht⟩ := hel i (by omega)
   obtain ⟨r, rfl⟩ := rule_list ht
   exact ⟨r, hc⟩
  obtain ⟨f, hf⟩ := Go.Deep.choose_lt hk
  refine ⟨(List.range len).map f, ⟨by simp, fun hp => ?_⟩, Nat.le_trans hl hm⟩
  obtain ⟨hsp, _⟩ := cells8 (hf 0 hp)
  obtain ⟨b, off, spot⟩ := a
  simp [Addr.add] at hsp
  subst hsp
  refine ⟨b, off, rfl, fun k r e => ?_⟩
  have hkl : k < len := by
   by_cases q : k < len
   ·exact q
   ·rw [List.getElem?_eq_none (by simp; omega)] at e; cases e
  rw [List.getElem?_map, List.getElem?_range hkl] at e
  simp at e
  subst e
  obtain ⟨_, hr⟩ := cells8 (hf k hkl)
  have : ((⟨b, off, none⟩ : Addr).add (k * 8)) = ⟨b, off + k * 8, none⟩ := Go.WideShapes.add_plain ..
  rw [this] at hr
  exact hr
end

section
open Go.RowKit Go.ChangeShapes Go.WideShapes
theorem cells64St : Tryz.prog.cellsOf 2 = 1 := by kernel_rfl
theorem Tryz.cells78 : Tryz.prog.cellsOf 78 = 5 := by kernel_rfl
theorem listSt {α : Type} {l : List α} (h : l.length = 5) : ∃ c0 c1 c2 c3 c4, l = [c0, c1, c2, c3, c4] := by
 match l, h with
 | [c0, c1, c2, c3, c4], _ => exact ⟨c0, c1, c2, c3, c4, rfl⟩
theorem statement_list {H : Type} {enc : TypeId × Value → H} {w : World} {base : Nat} {spare : Nat → Bool} {held : Bool} {fuel : Nat} {cs : List Value} {x : DataW H × List MemPlace} (h : DataW.trod enc Tryz.prog w base spare held fuel 78 cs = some x) :
  ∃ r : StI, cs = [.int .i64 r.k, .int .i64 r.e, .int .i64 r.f, .int .i64 r.s, .int .i64 r.n] := by
 obtain ⟨xs, n, _, _, hl, hlen, hf⟩ := DataW.trod_struct Tryz.underlying78 h
 rw [Tryz.cells78] at hl
 obtain ⟨c0, c1, c2, c3, c4, rfl⟩ := listSt hl
 obtain ⟨y0, y1, y2, y3, y4, rfl⟩ := listSt hlen
 have h0 := hf 0 _ rfl
 have h1 := hf 1 _ rfl
 have h2 := hf 2 _ rfl
 have h3 := hf 3 _ rfl
 have h4 := hf 4 _ rfl
 simp [cells64St] at h0 h1 h2 h3 h4
 obtain ⟨b0, e0, _, _⟩ := DataW.trod_int Tryz.underlying2 h0
 obtain ⟨b1, e1, _, _⟩ := DataW.trod_int Tryz.underlying2 h1
 obtain ⟨b2, e2, _, _⟩ := DataW.trod_int Tryz.underlying2 h2
 obtain ⟨b3, e3, _, _⟩ := DataW.trod_int Tryz.underlying2 h3
 obtain ⟨b4, e4, _, _⟩ := DataW.trod_int Tryz.underlying2 h4
 simp at e0 e1 e2 e3 e4
 subst e0 e1 e2 e3 e4
 exact ⟨⟨b0, b1, b2, b3, b4⟩, rfl⟩
end

section
open Go.RowKit Go.ChangeShapes Go.WideShapes
def ShArg (w : World) (a : Option Addr) (len : Nat) (zs : List ShI) : Prop := ShIn w a len zs ∧ len ≤ maxLen ∧ ∀ z ∈ zs, (Lit.int .i64 z.r).wf = true
theorem cells64Sh : Tryz.prog.cellsOf 2 = 1 := by kernel_rfl
theorem Tryz.cells80 : Tryz.prog.cellsOf 80 = 6 := by kernel_rfl
theorem listSh {α : Type} {l : List α} (h : l.length = 6) : ∃ c0 c1 c2 c3 c4 c5, l = [c0, c1, c2, c3, c4, c5] := by
 match l, h with
 | [c0, c1, c2, c3, c4, c5], _ => exact ⟨c0, c1, c2, c3, c4, c5, rfl⟩
theorem list2Sh {α : Type} {l : List α} (h : l.length = 2) : ∃ c0 c1, l = [c0, c1] := by
 match l, h with
 | [c0, c1], _ => exact ⟨c0, c1, rfl⟩
theorem share_list {H : Type} {enc : TypeId × Value → H} {w : World} {base : Nat} {spare : Nat → Bool} {held : Bool} {fuel : Nat} {cs : List Value} {x : DataW H × List MemPlace} (h : DataW.trod enc Tryz.prog w base spare held fuel 80 cs = some x) :
  ∃ r : ShI, cs = [.int .i64 r.r, .int .i64 r.k, .int .i64 r.e, .int .i64 r.f, .int .i64 r.s, .int .i64 r.n] ∧ (Lit.int .i64 r.r).wf = true := by
 obtain ⟨xs, n, _, _, hl, hlen, hf⟩ := DataW.trod_struct Tryz.underlying80 h
 rw [Tryz.cells80] at hl
 obtain ⟨c0, c1, c2, c3, c4, c5, rfl⟩ := listSh hl
 obtain ⟨y0, y1, rfl⟩ := list2Sh hlen
 have g0 := hf 0 _ rfl
 have g1 := hf 1 _ rfl
 simp [cells64Sh, Tryz.cells78] at g0 g1
 obtain ⟨b0, e0, _, hwf⟩ := DataW.trod_int Tryz.underlying2 g0
 obtain ⟨b1, e1⟩ := statement_list g1
 simp at e0 e1
 obtain ⟨rfl, rfl, rfl, rfl, rfl⟩ := e1
 subst e0
 exact ⟨⟨b0, b1.k, b1.e, b1.f, b1.s, b1.n⟩, rfl, hwf⟩
theorem cellsSh {w : World} {base : Nat} {a : Addr} {r : ShI} (h : w.cells? base a 6 = some [.int .i64 r.r, .int .i64 r.k, .int .i64 r.e, .int .i64 r.f, .int .i64 r.s, .int .i64 r.n]) : a.spot = none ∧ ShAt w a.block a.off r := by
 have e : List.range 6 = [0, 1, 2, 3, 4, 5] := rfl
 unfold World.cells? at h
 split at h
 ·rw [e] at h
  simp only [List.mapM_cons, List.mapM_nil, Option.bind_eq_bind, Option.bind_eq_some_iff, Option.pure_def, Option.some.injEq, List.cons.injEq] at h
  obtain ⟨x0, h0, y0, ⟨x1, h1, y1, ⟨x2, h2, y2, ⟨x3, h3, y3, ⟨x4, h4, y4, ⟨x5, h5, y5, rfl, e5⟩, e4⟩, e3⟩, e2⟩, e1⟩, e0, ee⟩ := h
  subst e0
  rw [← e1] at ee
  simp only [List.cons.injEq] at ee
  obtain ⟨rfl, ee⟩ := ee
  rw [← e2] at ee
  simp only [List.cons.injEq] at ee
  obtain ⟨rfl, ee⟩ := ee
  rw [← e3] at ee
  simp only [List.cons.injEq] at ee
  obtain ⟨rfl, ee⟩ := ee
  rw [← e4] at ee
  simp only [List.cons.injEq] at ee
  obtain ⟨rfl, ee⟩ := ee
  rw [← e5] at ee
  simp only [List.cons.injEq] at ee
  obtain ⟨rfl, _⟩ := ee
  obtain ⟨b, off, spot⟩ := a
  have hspot : spot = none := by simpa [Addr.add] using World.cell?_spot h0
  subst hspot
  simp only [Addr.add] at h0 h1 h2 h3 h4 h5
  exact ⟨rfl, by simpa using h0, by simpa using h1, by simpa using h2, by simpa using h3, by simpa using h4, by simpa using h5⟩
 ·cases h
theorem shares_shape {H : Type} {enc : TypeId × Value → H} {w : World} {base : Nat} {spare : Nat → Bool} {held : Bool} {fuel : Nat} {a0 : Option Addr} {len cap : Nat} {x : DataW H × List MemPlace} (h : DataW.trod enc Tryz.prog w base spare held fuel 23 [.slice a0 len cap] = some x) :
  ∃ zs : List ShI, ShArg w a0 len zs := by
 rcases Go.Deep.open_slice Tryz.underlying23 h with ⟨hcs, _⟩ | ⟨a, l, c, m, n, D, Pl, hcs, hb, hl, hm, hmm, _, hel⟩
 ·simp at hcs
  obtain ⟨rfl, rfl, rfl⟩ := hcs
  exact ⟨[], ⟨rfl, fun h => by omega⟩, Nat.zero_le _, fun z h => by cases h⟩
 ·simp at hcs
  obtain ⟨rfl, rfl, rfl⟩ := hcs
  have hle : len ≤ m := by rw [hmm]; split <;> omega
  rw [Tryz.cells80] at hel
  have hk : ∀ i, i < len → ∃ r : ShI, w.cells? base (a.add (i * 6)) 6 = some [.int .i64 r.r, .int .i64 r.k, .int .i64 r.e, .int .i64 r.f, .int .i64 r.s, .int .i64 r.n] ∧ (Lit.int .i64 r.r).wf = true := fun i hi => by
   obtain ⟨cs', hc, ht⟩ := hel i (by omega)
   obtain ⟨r, rfl, hwf⟩ := share_list ht
   exact ⟨r, hc, hwf⟩
  obtain ⟨f, hf⟩ := Go.Deep.choose_lt hk
  refine ⟨(List.range len).map f, ⟨by simp, fun hp => ?_⟩, Nat.le_trans hl hm, fun z hz => ?_⟩
  rotate_left 1
  ·obtain ⟨i, hi, rfl⟩ := List.mem_map.1 hz
   exact (hf i (List.mem_range.1 hi)).2
  obtain ⟨hsp, _⟩ := cellsSh (hf 0 hp).1
  obtain ⟨b, off, spot⟩ := a
  simp [Addr.add] at hsp
  subst hsp
  refine ⟨b, off, rfl, fun k r e => ?_⟩
  have hkl : k < len := by
   by_cases q : k < len
   ·exact q
   ·rw [List.getElem?_eq_none (by simp; omega)] at e; cases e
  rw [List.getElem?_map, List.getElem?_range hkl] at e
  simp at e
  subst e
  obtain ⟨_, hr⟩ := cellsSh (hf k hkl).1
  have : ((⟨b, off, none⟩ : Addr).add (k * 6)) = ⟨b, off + k * 6, none⟩ := Go.WideShapes.add_plain ..
  rw [this] at hr
  exact hr
end

end Go.Proofs.YtfkajnenniapaaaGreat
