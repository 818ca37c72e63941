/- Contracts. -/
import Derived.Test.YtfkajnenniapaaaGreatPt04
namespace Go.Proofs.YtfkajnenniapaaaGreat
set_option maxRecDepth 100000
set_option maxHeartbeats 8000000
open Go.RowKit
set_option linter.unusedVariables false
set_option linter.unusedSimpArgs false

structure PartI where
 k : Int
 ro : Int
 rn : Int
 l : Int
 r : Int
deriving DecidableEq, Inhabited
def ptOne (k : Nat) (p : PartI) : Int :=
 if ¬ (1 ≤ p.k ∧ p.k ≤ 3) then 1
 else if p.k = 1 then (if roleB p.ro p.rn = false then 3 else if ¬ (p.l = 0 ∧ p.r = 0) then 1 else 0)
 else if ¬ (p.ro = 0 ∧ p.rn = 0) then 1 else if ¬ (0 ≤ p.l ∧ p.l < k) then 3 else if ¬ (0 ≤ p.r ∧ p.r < k) then 3 else 0
def ptTo (zs : List PartI) : Nat → Int
 | 0 => 0
 | k + 1 => if ptTo zs k ≠ 0 then ptTo zs k else match zs[k]? with
  | none => 0
  | some x => ptOne k x
def ptCode (zs : List PartI) : Int := if zs.length < 1 then 2 else if 8 < zs.length then 2 else ptTo zs zs.length
theorem ptTo_stay (zs : List PartI) (k m : Nat) (c : Int) (hc : c ≠ 0) (h : ptTo zs k = c) (hm : k ≤ m) : ptTo zs m = c := by
  induction m with
  | zero => obtain rfl : k = 0 := by omega
            exact h
  | succ m ih =>
    by_cases e : k = m + 1
    · subst e; exact h
    · have := ih (by omega)
      simp only [ptTo, this]
      rw [if_pos hc]
theorem ptTo_next {zs : List PartI} {k : Nat} {x : PartI} (hk : zs[k]? = some x) (h0 : ptTo zs k = 0) : ptTo zs (k + 1) = ptOne k x := by
 simp [ptTo, h0, hk]
def PartAt (w : World) (g off : Nat) (x : PartI) : Prop := w.cell? ⟨g, off, none⟩ = some (.int .i64 x.k) ∧ w.cell? ⟨g, off + 1, none⟩ = some (.int .i64 x.ro) ∧ w.cell? ⟨g, off + 2, none⟩ = some (.int .i64 x.rn) ∧ w.cell? ⟨g, off + 3, none⟩ = some (.int .i64 x.l) ∧ w.cell? ⟨g, off + 4, none⟩ = some (.int .i64 x.r)
theorem PartAt.below {w w' : World} {g off : Nat} {x : PartI} (h : PartAt w g off x) (hb : Below w.heap.size w w') : PartAt w' g off x := by
 have key : ∀ (o : Nat) (v : Value), w.cell? ⟨g, o, none⟩ = some v → w'.cell? ⟨g, o, none⟩ = some v := fun o v e => (hb.cell (p := ⟨g, o, none⟩) (zL w ⟨g, o, none⟩ e)).trans e
 obtain ⟨h0, h1, h2, h3, h4⟩ := h
 exact ⟨key _ _ h0, key _ _ h1, key _ _ h2, key _ _ h3, key _ _ h4⟩
theorem PartAt.lt {w : World} {g off : Nat} {x : PartI} (h : PartAt w g off x) : g < w.heap.size := zL w ⟨g, off, none⟩ h.1
def PartsAt (w : World) (g off : Nat) (zs : List PartI) : Prop := ∀ k x, zs[k]? = some x → PartAt w g (off + k * 5) x
theorem PartsAt.below {w w' : World} {g off : Nat} {zs : List PartI} (h : PartsAt w g off zs) (hb : Below w.heap.size w w') : PartsAt w' g off zs := fun k x e => (h k x e).below hb
def PartsIn (w : World) (a : Option Addr) (len : Nat) (zs : List PartI) : Prop := zs.length = len ∧ (0 < len → ∃ b off, a = some ⟨b, off, none⟩ ∧ PartsAt w b off zs)
theorem PartsIn.below {w w' : World} {a : Option Addr} {len : Nat} {zs : List PartI} (h : PartsIn w a len zs) (hb : Below w.heap.size w w') : PartsIn w' a len zs := by
 refine ⟨h.1, fun hl => ?_⟩
 obtain ⟨b, off, e, hr⟩ := h.2 hl
 exact ⟨b, off, e, hr.below hb⟩
theorem PartsIn.at {w : World} {a : Option Addr} {len : Nat} {zs : List PartI} (h : PartsIn w a len zs) {k : Nat} (hk : k < len) :
  ∃ b off x, a = some ⟨b, off, none⟩ ∧ zs[k]? = some x ∧ PartAt w b (off + k * 5) x := by
 obtain ⟨b, off, e, hr⟩ := h.2 (by omega)
 have hl := h.1
 exact ⟨b, off, zs[k]'(by omega), e, List.getElem?_eq_getElem (by omega), hr k _ (List.getElem?_eq_getElem (by omega))⟩
theorem PartsIn.of {w : World} {g len : Nat} {zs : List PartI} (hl : zs.length = len) (h : PartsAt w g 0 zs) : PartsIn w (some ⟨g, 0, none⟩) len zs :=
 ⟨hl, fun _ => ⟨g, 0, rfl, h⟩⟩
def PartsArg (w : World) (a : Option Addr) (len : Nat) (zs : List PartI) : Prop := PartsIn w a len zs ∧ len ≤ maxLen
def Room5 (w : World) (g n : Nat) : Prop := (∀ j, j < n * 5 → ∃ v, w.cell? ⟨g, j, none⟩ = some v) ∧ ∀ j, w.frozen? ⟨g, j, none⟩ = false
theorem Room5.below {w w' : World} {g n : Nat} (h : Room5 w g n) (hg : g < w.heap.size) (hb : Below w.heap.size w w') : Room5 w' g n :=
 ⟨fun j hj => by obtain ⟨v, e⟩ := h.1 j hj; exact ⟨v, (hb.cell (p := ⟨g, j, none⟩) hg).trans e⟩, fun j => (hb.frozen (p := ⟨g, j, none⟩) hg).trans (h.2 j)⟩
abbrev put5 (w : World) (g o : Nat) (s : PartI) : World := (((((w.setCell ⟨g, o, none⟩ (.int .i64 s.k)).setCell ⟨g, o + 1, none⟩ (.int .i64 s.ro)).setCell ⟨g, o + 2, none⟩ (.int .i64 s.rn)).setCell ⟨g, o + 3, none⟩ (.int .i64 s.l)).setCell ⟨g, o + 4, none⟩ (.int .i64 s.r))
theorem put5_other (w : World) (g o : Nat) (s : PartI) (a : Addr) (h : ∀ j, j < 5 → a ≠ ⟨g, o + j, none⟩) : (put5 w g o s).cell? a = w.cell? a := by
 rw [World.cell?_setCell_other (h := Ne.symm (h 4 (by omega))), World.cell?_setCell_other (h := Ne.symm (h 3 (by omega))), World.cell?_setCell_other (h := Ne.symm (h 2 (by omega))), World.cell?_setCell_other (h := Ne.symm (h 1 (by omega))), World.cell?_setCell_other (h := Ne.symm (a := a) (b := ⟨g, o, none⟩) (by simpa using h 0 (by omega)))]
theorem put5_at (w : World) (g o : Nat) (s : PartI) (h : ∀ j, j < 5 → ∃ v, w.cell? ⟨g, o + j, none⟩ = some v) : PartAt (put5 w g o s) g o s := by
 obtain ⟨v0, h0⟩ := h 0 (by omega)
 obtain ⟨v1, h1⟩ := h 1 (by omega)
 obtain ⟨v2, h2⟩ := h 2 (by omega)
 obtain ⟨v3, h3⟩ := h 3 (by omega)
 obtain ⟨v4, h4⟩ := h 4 (by omega)
 rw [Nat.add_zero] at h0
 refine ⟨?_, ?_, ?_, ?_, ?_⟩ <;> simp [go_sem, h0, h1, h2, h3, h4]
theorem put5_room {w : World} {g n k : Nat} {zs : List PartI} {s : PartI} (hroom : Room5 w g n) (hd : PartsAt w g 0 (zs.take k)) (hs : zs[k]? = some s) (hk : k < n) :
  Room5 (put5 w g (k * 5) s) g n ∧ PartsAt (put5 w g (k * 5) s) g 0 (zs.take (k + 1)) := by
 have hr := put5_at w g (k * 5) s (fun j hj => hroom.1 (k * 5 + j) (by omega))
 refine ⟨⟨fun j hj => ?_, fun j => ?_⟩, fun i r e => ?_⟩
 ·by_cases h : k * 5 ≤ j ∧ j < k * 5 + 5
  ·have hj' : j = k * 5 ∨ j = k * 5 + 1 ∨ j = k * 5 + 2 ∨ j = k * 5 + 3 ∨ j = k * 5 + 4 := by omega
   obtain ⟨h0, h1, h2, h3, h4⟩ := hr
   rcases hj' with rfl | rfl | rfl | rfl | rfl
   ·exact ⟨_, h0⟩
   ·exact ⟨_, h1⟩
   ·exact ⟨_, h2⟩
   ·exact ⟨_, h3⟩
   ·exact ⟨_, h4⟩
  ·rw [put5_other w g (k * 5) s ⟨g, j, none⟩ (fun i hi e => by have e2 := congrArg Addr.off e; simp only at e2; omega)]
   exact hroom.1 j hj
 ·simp only [World.frozen?_setCell]
  exact hroom.2 j
 ·rw [List.getElem?_take] at e
  split at e
  ·by_cases hik : i = k
   ·subst hik
    rw [hs] at e
    cases e
    rw [Nat.zero_add]
    exact hr
   ·have hi : i < k := by omega
    have h1 := hd i r (by rw [List.getElem?_take, if_pos hi]; exact e)
    have key : ∀ (o : Nat) (v : Value), o < k * 5 → w.cell? ⟨g, o, none⟩ = some v → (put5 w g (k * 5) s).cell? ⟨g, o, none⟩ = some v := fun o v ho hv => by
     rw [put5_other w g (k * 5) s ⟨g, o, none⟩ (fun j hj e => by have e2 := congrArg Addr.off e; simp only at e2; omega)]; exact hv
    obtain ⟨h0, h1, h2, h3, h4⟩ := h1
    exact ⟨key _ _ (by omega) h0, key _ _ (by omega) h1, key _ _ (by omega) h2, key _ _ (by omega) h3, key _ _ (by omega) h4⟩
  ·cases e
theorem put5_below {w0 w : World} {B g o : Nat} (h : Below B w0 w) (hg : B ≤ g) (s : PartI) : Below B w0 (put5 w g o s) :=
 h.setCell hg _ |>.setCell hg _ |>.setCell hg _ |>.setCell hg _ |>.setCell hg _
theorem toPart_c (x : PartI) (w : World) : Calls Tryz.prog 130 #[.agg #[.int .i64 x.k, .int .i64 x.ro, .int .i64 x.rn, .int .i64 x.l, .int .i64 x.r]] w fun e w' => e = .returned (.agg #[.int .i64 x.k, .int .i64 x.ro, .int .i64 x.rn, .int .i64 x.l, .int .i64 x.r]) ∧ Below w.heap.size w w' := by
 go_enter Tryz.func130, Tryz.ntmps130
 go_wp2
 go_returns
 exact ⟨rfl, by go_grown⟩
theorem Tryz.info162 : (Tryz.prog.info? 162).map (fun i => (i.zero, i.size, i.bytes)) = some (some (.agg #[.int .i64 0, .int .i64 0, .int .i64 0, .int .i64 0, .int .i64 0]), 5, 40) := by kernel_rfl
theorem toParts_room (a : Option Addr) (n cap : Nat) (zs : List PartI) (w : World) (hn : n ≤ 1048576) (h : PartsIn w a n zs) :
  Calls Tryz.prog 114 #[.slice a n cap] w fun e w' => e = .returned (.slice (some ⟨w.heap.size, 0, none⟩) n n) ∧ PartsAt w' w.heap.size 0 zs ∧ w.heap.size < w'.heap.size ∧ Below w.heap.size w w' ∧ Room5 w' w.heap.size n := by
 obtain ⟨i0, hi, hz0, hz1, hz2⟩ := info_parts Tryz.info162
 obtain ⟨wm, hmk, hownm, hgrm⟩ := run_make_full (P := Tryz.prog) (w := w) w.heap.size 131 162 i0 (.agg #[.int .i64 0, .int .i64 0, .int .i64 0, .int .i64 0, .int .i64 0]) 5 Tryz.underlying131 hi hz0 hz1 .i64 .i64 n (by rw [hz2]; omega) (by unfold maxLen; omega) (Nat.le_refl _)
 have H : Hid (PartsIn w a n zs) := h
 have hz : Hid (zs.length = n) := h.1
 clear h
 have HM : Hid (Room5 wm w.heap.size n ∧ w.heap.size < wm.heap.size) := by
  refine ⟨⟨fun j hj => ?_, fun j => hownm.frozenAt j⟩, (hownm.lt _ rfl).2⟩
  have hl := hownm.1
  exact ⟨_, (hownm.cellAt j hj).trans (List.getElem?_eq_getElem (by omega))⟩
 clear hownm
 have HG : Hid (w.grownBy wm none) := hgrm
 clear hgrm
 have hn' : (n : Int) ≤ 1048576 := by omega
 go_enter Tryz.func114, Tryz.ntmps114
 go_wp2
 go_loopw [4] (fun i wr => ∃ k : Nat, k ≤ n ∧ i = .int .i64 (k : Int) ∧ Room5 wr w.heap.size n ∧ PartsAt wr w.heap.size 0 (zs.take k) ∧ w.heap.size < wr.heap.size ∧ Below w.heap.size w wr)
  (fun i _ => n - (intOf i).toNat)
 case atStart => exact ⟨0, Nat.zero_le _, rfl, HM.out.1, fun k r e => by simp at e, HM.out.2, (Below.refl _ _).grown HG.out (Nat.le_refl _) (fun k e => by cases e)⟩
 case round =>
  obtain ⟨k, hk, rfl, hroom, hdone, hlt0, hnx⟩ := hrel
  by_cases hlt : k < n
  ·obtain ⟨b, off, s, rfl, hs, hr⟩ := H.out.at hlt
   have HS : Hid (zs[k]? = some s) := hs
   have hb : b < w.heap.size := hr.lt
   clear hs
   obtain ⟨h0, h1, h2, h3, h4⟩ := hr.below hnx
   have HD : Hid (Room5 wr w.heap.size n ∧ PartsAt wr w.heap.size 0 (zs.take k)) := ⟨hroom, hdone⟩
   clear hroom hdone hr
   have hlt' : (k : Int) < (n : Int) := by omega
   go_wp2_with fail
   refine (toPart_c s _).mono ?_
   rintro e w1 ⟨rfl, hb1⟩
   obtain ⟨⟨hc, hf⟩, hd⟩ := HD.out
   have hz1 := hb1.size
   have HD1 : Hid (Room5 w1 w.heap.size n ∧ PartsAt w1 w.heap.size 0 (zs.take k) ∧ Below w.heap.size w w1) :=
    ⟨⟨fun j hj => by obtain ⟨v, e⟩ := hc j hj; exact ⟨v, (hb1.cell (p := ⟨w.heap.size, j, none⟩) hlt0).trans e⟩, fun j => (hb1.frozen (p := ⟨w.heap.size, j, none⟩) hlt0).trans (hf j)⟩, hd.below hb1, hnx.trans (hb1.mono hnx.size)⟩
   clear hc hf hd HD h0 h1 h2 h3 h4
   obtain ⟨v0, c0⟩ := HD1.out.1.1 (k * 5) (by omega)
   obtain ⟨v1, c1⟩ := HD1.out.1.1 (k * 5 + 1) (by omega)
   obtain ⟨v2, c2⟩ := HD1.out.1.1 (k * 5 + 2) (by omega)
   obtain ⟨v3, c3⟩ := HD1.out.1.1 (k * 5 + 3) (by omega)
   obtain ⟨v4, c4⟩ := HD1.out.1.1 (k * 5 + 4) (by omega)
   have f0 := HD1.out.1.2 (k * 5)
   have f1 := HD1.out.1.2 (k * 5 + 1)
   have f2 := HD1.out.1.2 (k * 5 + 2)
   have f3 := HD1.out.1.2 (k * 5 + 3)
   have f4 := HD1.out.1.2 (k * 5 + 4)
   have RM : Hid (Room5 (put5 w1 w.heap.size (k * 5) s) w.heap.size n ∧ PartsAt (put5 w1 w.heap.size (k * 5) s) w.heap.size 0 (zs.take (k + 1)) ∧ Below w.heap.size w (put5 w1 w.heap.size (k * 5) s)) := by
    have h2 := put5_room HD1.out.1 HD1.out.2.1 HS.out hlt
    exact ⟨h2.1, h2.2, put5_below HD1.out.2.2 (Nat.le_refl _) s⟩
   go_wp2
   exact ⟨⟨k + 1, by omega, by go_num, RM.out.1, RM.out.2.1, by simp only [World.size_setCell]; omega, RM.out.2.2⟩, by simp [intOf]; omega⟩
  ·have hkn : k = n := by omega
   subst hkn
   rw [List.take_of_length_le (by rw [hz.out]; exact Nat.le_refl _)] at hdone
   go_wp2
   go_ret
   exact ⟨rfl, hdone, hlt0, hnx, hroom⟩
theorem eqPart_same (x : PartI) (w : World) :
  Calls Tryz.prog 139 #[.agg #[.int .i64 x.k, .int .i64 x.ro, .int .i64 x.rn, .int .i64 x.l, .int .i64 x.r], .agg #[.int .i64 x.k, .int .i64 x.ro, .int .i64 x.rn, .int .i64 x.l, .int .i64 x.r]] w fun e w' => e = .returned (.bool true) ∧ Below w.heap.size w w' := by
 go_enter Tryz.func139, Tryz.ntmps139
 go_wp2
 go_ret
 exact ⟨rfl, by go_grown⟩
theorem eqParts_same (a b : Option Addr) (n c d : Nat) (zs : List PartI) (w : World) (hn : n ≤ 1048576) (ha : PartsIn w a n zs) (hb : PartsIn w b n zs) :
  Calls Tryz.prog 122 #[.slice a n c, .slice b n d] w fun e w' => e = .returned (.bool true) ∧ Below w.heap.size w w' := by
 have HA : Hid (PartsIn w a n zs) := ha
 have HB : Hid (PartsIn w b n zs) := hb
 clear ha hb
 have hn' : (n : Int) ≤ 1048576 := by omega
 go_enter Tryz.func122, Tryz.ntmps122
 go_wp2
 go_loopw [5] (fun i wr => ∃ k : Nat, k ≤ n ∧ i = .int .i64 (k : Int) ∧ Below w.heap.size w wr) (fun i _ => n - (intOf i).toNat)
 case atStart => exact ⟨0, Nat.zero_le _, rfl, Below.refl _ _⟩
 case round =>
  obtain ⟨k, hk, rfl, hnx⟩ := hrel
  by_cases hlt : k < n
  ·obtain ⟨b1, o1, s, e1, hs, hr⟩ := HA.out.at hlt
   obtain ⟨b2, o2, s2, e2, hs2, hr2⟩ := HB.out.at hlt
   obtain rfl : s = s2 := Option.some.inj (hs.symm.trans hs2)
   subst e1 e2
   clear hs hs2
   obtain ⟨h0, h1, h2, h3, h4⟩ := hr.below hnx
   obtain ⟨g0, g1, g2, g3, g4⟩ := hr2.below hnx
   clear hr hr2
   have hlt' : (k : Int) < (n : Int) := by omega
   have hb1 : b1 < wr.heap.size := zL wr ⟨b1, o1 + k * 5, none⟩ h0
   have hb2 : b2 < wr.heap.size := zL wr ⟨b2, o2 + k * 5, none⟩ g0
   go_wp2
   go_region_held3 (fun w' => (∀ b o, b < wr.heap.size → w'.cell? ⟨b, o, none⟩ = wr.cell? ⟨b, o, none⟩) ∧ Below wr.heap.size wr w') (first | exact hS | exact kp_drew _)
    (first | (go_at_call 139; refine (eqPart_same s _).mono ?_; rintro e w' ⟨rfl, hb1⟩; have hS := kp_step (by assumption) hb1))
   go_wp2
   exact ⟨⟨k + 1, by omega, by go_num, hnx.trans (hS.2.mono hnx.size)⟩, by simp [intOf]; omega⟩
  ·have hkn : k = n := by omega
   subst hkn
   go_wp2
   go_ret
   exact ⟨rfl, hnx⟩

structure FormI where
 a : Option Addr
 n : Nat
 cap : Nat
 ps : List PartI
deriving Inhabited
def FormAt (w : World) (g off : Nat) (x : FormI) : Prop := w.cell? ⟨g, off, none⟩ = some (.slice x.a x.n x.cap) ∧ PartsIn w x.a x.n x.ps
theorem FormAt.below {w w' : World} {g off : Nat} {x : FormI} (h : FormAt w g off x) (hb : Below w.heap.size w w') : FormAt w' g off x :=
 ⟨(hb.cell (p := ⟨g, off, none⟩) (zL w ⟨g, off, none⟩ h.1)).trans h.1, h.2.below hb⟩
theorem FormAt.lt {w : World} {g off : Nat} {x : FormI} (h : FormAt w g off x) : g < w.heap.size := zL w ⟨g, off, none⟩ h.1
def FormsAt (w : World) (g off : Nat) (fs : List FormI) : Prop := ∀ (k : Nat) (x : FormI), fs[k]? = some x → FormAt w g (off + k) x
theorem FormsAt.below {w w' : World} {g off : Nat} {fs : List FormI} (h : FormsAt w g off fs) (hb : Below w.heap.size w w') : FormsAt w' g off fs := fun k x e => (h k x e).below hb
def FormsIn (w : World) (a : Option Addr) (n : Nat) (fs : List FormI) : Prop := fs.length = n ∧ (0 < n → ∃ b off, a = some ⟨b, off, none⟩ ∧ FormsAt w b off fs)
theorem FormsIn.below {w w' : World} {a : Option Addr} {n : Nat} {fs : List FormI} (h : FormsIn w a n fs) (hb : Below w.heap.size w w') : FormsIn w' a n fs := by
 refine ⟨h.1, fun hl => ?_⟩
 obtain ⟨b, off, e, hr⟩ := h.2 hl
 exact ⟨b, off, e, hr.below hb⟩
theorem FormsIn.at {w : World} {a : Option Addr} {n : Nat} {fs : List FormI} (h : FormsIn w a n fs) {k : Nat} (hk : k < n) :
  ∃ b off x, a = some ⟨b, off, none⟩ ∧ fs[k]? = some x ∧ FormAt w b (off + k) x := by
 obtain ⟨b, off, e, hr⟩ := h.2 (by omega)
 have hl := h.1
 exact ⟨b, off, fs[k]'(by omega), e, List.getElem?_eq_getElem (by omega), hr k _ (List.getElem?_eq_getElem (by omega))⟩
theorem FormsIn.of {w : World} {g n : Nat} {fs : List FormI} (hl : fs.length = n) (h : FormsAt w g 0 fs) : FormsIn w (some ⟨g, 0, none⟩) n fs :=
 ⟨hl, fun _ => ⟨g, 0, rfl, h⟩⟩
def partsL (fs : List FormI) : List (List PartI) := fs.map FormI.ps
def FormsLe (m : Nat) (fs : List FormI) : Prop := ∀ (k : Nat) (x : FormI), fs[k]? = some x → x.n ≤ m
def FormNew (w : World) (L : Nat) (x : FormI) : Prop := x.cap = x.n ∧ ∃ g, x.a = some ⟨g, 0, none⟩ ∧ L ≤ g ∧ g < w.heap.size ∧ Room5 w g x.n
theorem FormNew.below {w w' : World} {L : Nat} {x : FormI} (h : FormNew w L x) (hb : Below w.heap.size w w') : FormNew w' L x := by
 obtain ⟨h0, g, h1, h2, h3, h4⟩ := h
 exact ⟨h0, g, h1, h2, by have := hb.size; omega, h4.below h3 hb⟩
def FormsNew (w : World) (L : Nat) (fs : List FormI) : Prop := ∀ (k : Nat) (x : FormI), fs[k]? = some x → FormNew w L x
theorem FormsNew.below {w w' : World} {L : Nat} {fs : List FormI} (h : FormsNew w L fs) (hb : Below w.heap.size w w') : FormsNew w' L fs := fun k x e => (h k x e).below hb
theorem Tryz.info133 : (Tryz.prog.info? 133).map (fun i => (i.zero, i.size, i.bytes)) = some (some (.agg #[.slice none 0 0]), 1, 24) := by kernel_rfl
theorem PartsIn.set {w : World} {a : Option Addr} {n g o : Nat} {v : Value} {zs : List PartI} (h : PartsIn w a n zs) (hne : ∀ b off, a = some ⟨b, off, none⟩ → b ≠ g) : PartsIn (w.setCell ⟨g, o, none⟩ v) a n zs := by
 refine ⟨h.1, fun hp => ?_⟩
 obtain ⟨b, off, e, hr⟩ := h.2 hp
 refine ⟨b, off, e, fun k x hx => ?_⟩
 have key : ∀ (q : Nat) (u : Value), w.cell? ⟨b, q, none⟩ = some u → (w.setCell ⟨g, o, none⟩ v).cell? ⟨b, q, none⟩ = some u := fun q u hu => by
  rw [World.cell?_setCell_other (h := fun e2 => hne b off e (by have := congrArg Addr.block e2; simp at this; omega))]; exact hu
 obtain ⟨h0, h1, h2, h3, h4⟩ := hr k x hx
 exact ⟨key _ _ h0, key _ _ h1, key _ _ h2, key _ _ h3, key _ _ h4⟩
theorem Room5.setAny {w : World} {g n : Nat} (h : Room5 w g n) (b o : Nat) (v : Value) : Room5 (w.setCell ⟨b, o, none⟩ v) g n := by
 refine ⟨fun j hj => ?_, fun j => by simp only [World.frozen?_setCell]; exact h.2 j⟩
 obtain ⟨u, e⟩ := h.1 j hj
 by_cases q : (⟨b, o, none⟩ : Addr) = ⟨g, j, none⟩
 ·cases q
  exact ⟨v, by simp [go_sem, e]⟩
 ·exact ⟨u, by rw [World.cell?_setCell_other (h := q)]; exact e⟩
theorem toForm_c (x : FormI) (w : World) (hn : x.n ≤ 1048576) (h : PartsIn w x.a x.n x.ps) :
  Calls Tryz.prog 92 #[.agg #[.slice x.a x.n x.cap]] w fun e w' => ∃ y : FormI, e = .returned (.agg #[.slice y.a y.n y.cap]) ∧ y.ps = x.ps ∧ y.n = x.n ∧ PartsIn w' y.a y.n y.ps ∧ FormNew w' w.heap.size y ∧ Below w.heap.size w w' := by
 have HP : Hid (PartsIn w x.a x.n x.ps) := h
 clear h
 obtain ⟨W, hW⟩ : ∃ W, W = ((w.alloc (.cells #[.slice x.a x.n x.cap] 146)).alloc (.cells #[.slice none 0 0] 133)).alloc (.cells #[.slice none 0 0] 133) := ⟨_, rfl⟩
 have hs : W.heap.size = w.heap.size + 3 := by rw [hW]; simp
 have B0 : Below w.heap.size w W := by rw [hW]; exact ((zN).alloc (by simp) _).alloc (by simp; omega) _
 have c1 : W.cell? ⟨w.heap.size + 1, 0, none⟩ = some (.slice none 0 0) := by rw [hW]; go_cell
 have c2 : W.cell? ⟨w.heap.size + 2, 0, none⟩ = some (.slice none 0 0) := by rw [hW]; go_cell
 have f1 : W.frozen? ⟨w.heap.size + 1, 0, none⟩ = false := by rw [hW]; simp [go_sem]
 have f2 : W.frozen? ⟨w.heap.size + 2, 0, none⟩ = false := by rw [hW]; simp [go_sem]
 go_enter Tryz.func92, Tryz.ntmps92
 go_wp2_with fail
 rw [← hW]
 clear hW
 refine (toParts_room x.a x.n x.cap x.ps W hn (HP.out.below B0)).mono ?_
 rintro e w1 ⟨rfl, hat, hlt, hb, hroom⟩
 have HQ : Hid (PartsAt w1 W.heap.size 0 x.ps ∧ Room5 w1 W.heap.size x.n ∧ Below w.heap.size w w1) := ⟨hat, hroom, B0.trans (hb.mono (by omega))⟩
 have d1 : w1.cell? ⟨w.heap.size + 1, 0, none⟩ = some (.slice none 0 0) := (hb.cell (p := ⟨w.heap.size + 1, 0, none⟩) (by show w.heap.size + 1 < W.heap.size; omega)).trans c1
 have d2 : w1.cell? ⟨w.heap.size + 2, 0, none⟩ = some (.slice none 0 0) := (hb.cell (p := ⟨w.heap.size + 2, 0, none⟩) (by show w.heap.size + 2 < W.heap.size; omega)).trans c2
 have g1 : w1.frozen? ⟨w.heap.size + 1, 0, none⟩ = false := (hb.frozen (p := ⟨w.heap.size + 1, 0, none⟩) (by show w.heap.size + 1 < W.heap.size; omega)).trans f1
 have g2 : w1.frozen? ⟨w.heap.size + 2, 0, none⟩ = false := (hb.frozen (p := ⟨w.heap.size + 2, 0, none⟩) (by show w.heap.size + 2 < W.heap.size; omega)).trans f2
 have hw : w.heap.size + 2 < w1.heap.size := by omega
 have HS : Hid (W.heap.size = w.heap.size + 3) := hs
 clear hat hroom hb c1 c2 f1 f2 B0 hs
 go_wp2
 refine bodyPost_ret (v := .agg #[.slice (some ⟨W.heap.size, 0, none⟩) x.n x.n]) (by simp [results, Tryz.results92, go_sem, d1, d2, hw]) rfl ⟨⟨some ⟨W.heap.size, 0, none⟩, x.n, x.n, x.ps⟩, rfl, rfl, rfl, ?_, ⟨rfl, _, rfl, by have := HS.out; omega, by simp only [World.size_setCell]; exact hlt, (HQ.out.2.1.setAny _ _ _).setAny _ _ _⟩, ?_⟩
 ·exact ((PartsIn.of HP.out.1 HQ.out.1).set (fun b off e => by cases e; have := HS.out; omega)).set (fun b off e => by cases e; have := HS.out; omega)
 ·exact (HQ.out.2.2.setCell (by simp; omega) _).setCell (by simp) _
theorem forms_put {w : World} {B k n : Nat} {ys : List FormI} {y : FormI} (hroom : IntRoom w B n) (hk : k < n) (hl : ys.length = k) (hat : FormsAt w B 0 ys) (hnew : FormsNew w (B + 1) ys) (hp : PartsIn w y.a y.n y.ps) (hy : FormNew w (B + 1) y) :
  IntRoom (w.setCell ⟨B, k, none⟩ (.slice y.a y.n y.cap)) B n ∧ FormsAt (w.setCell ⟨B, k, none⟩ (.slice y.a y.n y.cap)) B 0 (ys ++ [y]) ∧ FormsNew (w.setCell ⟨B, k, none⟩ (.slice y.a y.n y.cap)) (B + 1) (ys ++ [y]) := by
 have hne : ∀ z : FormI, FormNew w (B + 1) z → ∀ b off, z.a = some ⟨b, off, none⟩ → b ≠ B := fun z hz b off e => by
  obtain ⟨_, g, e', hg, _⟩ := hz
  rw [e] at e'
  cases e'
  omega
 have hns : ∀ z : FormI, FormNew w (B + 1) z → FormNew (w.setCell ⟨B, k, none⟩ (.slice y.a y.n y.cap)) (B + 1) z := fun z hz => by
  obtain ⟨h0, g, e', hg, hlt, hr⟩ := hz
  exact ⟨h0, g, e', hg, by simp only [World.size_setCell]; exact hlt, hr.setAny _ _ _⟩
 obtain ⟨u, hu⟩ := hroom.1 k hk
 refine ⟨hroom.set _ _, fun j x e => ?_, fun j x e => ?_⟩
 ·by_cases hj : j < k
  ·rw [List.getElem?_append_left (by omega)] at e
   obtain ⟨h1, h2⟩ := hat j x e
   refine ⟨?_, h2.set (hne x (hnew j x e))⟩
   rw [World.cell?_setCell_other (h := fun q => by have := congrArg Addr.off q; simp at this; omega)]
   exact h1
  ·have hjk : j = k := by
    by_cases q : j < (ys ++ [y]).length
    ·simp at q; omega
    ·rw [List.getElem?_eq_none (by omega)] at e; cases e
   subst hjk
   rw [← hl, List.getElem?_append_right (Nat.le_refl _), Nat.sub_self] at e
   simp at e
   subst e
   refine ⟨?_, hp.set (hne y hy)⟩
   rw [Nat.zero_add]
   simp [go_sem, hu]
 ·rcases List.mem_append.1 (List.mem_of_getElem? e) with h | h
  ·obtain ⟨i, hi⟩ := List.mem_iff_getElem?.1 h
   exact hns x (hnew i x hi)
  ·rw [List.mem_singleton.1 h]
   exact hns y hy
structure FormsTo (w0 w : World) (n : Nat) (fs ys : List FormI) : Prop where
 ln : ys.length = n
 ps : partsL ys = partsL fs
 at' : FormsAt w w0.heap.size 0 ys
 nw : FormsNew w (w0.heap.size + 1) ys
 rm : IntRoom w w0.heap.size n
 lt : w0.heap.size < w.heap.size
 bl : Below w0.heap.size w0 w
theorem toForms_c (a : Option Addr) (n cap : Nat) (fs : List FormI) (w : World) (hn : n ≤ 1048576) (hle : FormsLe 1048576 fs) (h : FormsIn w a n fs) :
  Calls Tryz.prog 69 #[.slice a n cap] w fun e w' => e = .returned (.slice (some ⟨w.heap.size, 0, none⟩) n n) ∧ ∃ ys, FormsTo w w' n fs ys := by
 obtain ⟨i0, hi, hz0, hz1, hz2⟩ := info_parts Tryz.info133
 obtain ⟨wm, hmk, hownm, hgrm⟩ := run_make_full (P := Tryz.prog) (w := w) w.heap.size 71 133 i0 (.agg #[.slice none 0 0]) 1 Tryz.underlying71 hi hz0 hz1 .i64 .i64 n (by rw [hz2]; omega) (by unfold maxLen; omega) (Nat.le_refl _)
 have H : Hid (FormsIn w a n fs) := h
 have HLE : Hid (FormsLe 1048576 fs) := hle
 have hz : Hid (fs.length = n) := h.1
 clear h hle
 have HM : Hid (IntRoom wm w.heap.size n ∧ w.heap.size < wm.heap.size) := by
  refine ⟨⟨fun j hj => ?_, fun j => hownm.frozenAt j⟩, (hownm.lt _ rfl).2⟩
  have hl := hownm.1
  exact ⟨_, (hownm.cellAt j (by omega)).trans (List.getElem?_eq_getElem (by omega))⟩
 clear hownm
 have HG : Hid (w.grownBy wm none) := hgrm
 clear hgrm
 have hn' : (n : Int) ≤ 1048576 := by omega
 go_enter Tryz.func69, Tryz.ntmps69
 go_wp2
 go_loopw [4] (fun i wr => ∃ (k : Nat) (ys : List FormI), k ≤ n ∧ i = .int .i64 (k : Int) ∧ ys.length = k ∧ partsL ys = partsL (fs.take k) ∧ IntRoom wr w.heap.size n ∧ FormsAt wr w.heap.size 0 ys ∧ FormsNew wr (w.heap.size + 1) ys ∧ w.heap.size < wr.heap.size ∧ Below w.heap.size w wr)
  (fun i _ => n - (intOf i).toNat)
 case atStart => exact ⟨0, [], Nat.zero_le _, rfl, rfl, rfl, HM.out.1, fun k r e => by simp at e, fun k r e => by simp at e, HM.out.2, (Below.refl _ _).grown HG.out (Nat.le_refl _) (fun k e => by cases e)⟩
 case round =>
  obtain ⟨k, ys, hk, rfl, hyl, hyp, hroom, hat, hnew, hlt0, hnx⟩ := hrel
  have HY : Hid (ys.length = k ∧ partsL ys = partsL (fs.take k)) := ⟨hyl, hyp⟩
  clear hyl hyp
  by_cases hlt : k < n
  ·obtain ⟨b, off, x, rfl, hs, hr⟩ := H.out.at hlt
   have HS : Hid (fs[k]? = some x) := hs
   have hb : b < w.heap.size := hr.lt
   have hx : x.n ≤ 1048576 := HLE.out k x hs
   clear hs
   have hr2 := hr.below hnx
   have h0 := hr2.1
   have HX : Hid (PartsIn wr x.a x.n x.ps) := hr2.2
   have HD : Hid (IntRoom wr w.heap.size n ∧ FormsAt wr w.heap.size 0 ys ∧ FormsNew wr (w.heap.size + 1) ys ∧ Below w.heap.size w wr) := ⟨hroom, hat, hnew, hnx⟩
   clear hroom hat hnew hr hr2 hnx
   have hlt' : (k : Int) < (n : Int) := by omega
   go_wp2_with fail
   refine (toForm_c x _ hx HX.out).mono ?_
   rintro e w1 ⟨y, rfl, hyps, hyn, hyP, hyN, hb1⟩
   have hz1 := hb1.size
   have HB : Hid (Below wr.heap.size wr w1) := hb1
   have hyN' : FormNew w1 (w.heap.size + 1) y := by
    obtain ⟨q0, g, q1, q2, q3⟩ := hyN
    exact ⟨q0, g, q1, by omega, q3⟩
   obtain ⟨P1, P2, P3⟩ := forms_put (HD.out.1.below hlt0 hb1) hlt HY.out.1 (HD.out.2.1.below hb1) (HD.out.2.2.1.below hb1) hyP hyN'
   have RM : Hid (IntRoom (w1.setCell ⟨w.heap.size, k, none⟩ (.slice y.a y.n y.cap)) w.heap.size n ∧ FormsAt (w1.setCell ⟨w.heap.size, k, none⟩ (.slice y.a y.n y.cap)) w.heap.size 0 (ys ++ [y]) ∧ FormsNew (w1.setCell ⟨w.heap.size, k, none⟩ (.slice y.a y.n y.cap)) (w.heap.size + 1) (ys ++ [y]) ∧ Below w.heap.size w (w1.setCell ⟨w.heap.size, k, none⟩ (.slice y.a y.n y.cap))) := ⟨P1, P2, P3, (HD.out.2.2.2.trans (hb1.mono HD.out.2.2.2.size)).setCell (Nat.le_refl _) _⟩
   have HP : Hid (partsL (ys ++ [y]) = partsL (fs.take (k + 1))) := by
    show partsL (ys ++ [y]) = partsL (fs.take (k + 1))
    have h1 := HY.out.2
    unfold partsL at h1 ⊢
    rw [List.map_append, h1, List.take_add_one, HS.out]
    simp [hyps]
   obtain ⟨u, hu⟩ := (HD.out.1.below hlt0 hb1).1 k hlt
   have hf := (HD.out.1.below hlt0 hb1).2 k
   clear P1 P2 P3 hyps hyn hyP hyN hyN' hb1 h0
   go_wp2
   exact ⟨⟨k + 1, ys ++ [y], by omega, by go_num, by simp [HY.out.1], HP.out, RM.out.1, RM.out.2.1, RM.out.2.2.1, by simp only [World.size_setCell]; omega, RM.out.2.2.2⟩, by simp [intOf]; omega⟩
  ·have hkn : k = n := by omega
   subst hkn
   have HQ : Hid (FormsTo w wr k fs ys) := by
    refine ⟨HY.out.1, ?_, hat, hnew, hroom, hlt0, hnx⟩
    have := HY.out.2
    rw [List.take_of_length_le (by rw [hz.out]; exact Nat.le_refl _)] at this
    exact this
   go_wp2
   go_ret
   exact ⟨rfl, ys, HQ.out⟩
theorem eqForm_same (x y : FormI) (w : World) (hn : x.n ≤ 1048576) (hp : y.ps = x.ps) (ha : PartsIn w x.a x.n x.ps) (hb : PartsIn w y.a y.n y.ps) :
  Calls Tryz.prog 99 #[.agg #[.slice x.a x.n x.cap], .agg #[.slice y.a y.n y.cap]] w fun e w' => e = .returned (.bool true) ∧ Below w.heap.size w w' := by
 have hyn : y.n = x.n := by have h1 := ha.1; have h2 := hb.1; rw [hp] at h2; omega
 rw [hyn] at hb
 rw [hp] at hb
 rw [hyn]
 clear hyn hp
 have HA : Hid (PartsIn w x.a x.n x.ps) := ha
 have HB : Hid (PartsIn w y.a x.n x.ps) := hb
 clear ha hb
 obtain ⟨W, hW⟩ : ∃ W, W = (w.alloc (.cells #[.slice x.a x.n x.cap] 133)).alloc (.cells #[.slice y.a x.n y.cap] 133) := ⟨_, rfl⟩
 have B0 : Below w.heap.size w W := by rw [hW]; exact (zN).alloc (by simp) _
 go_enter Tryz.func99, Tryz.ntmps99
 go_wp2_with fail
 rw [← hW]
 clear hW
 refine (eqParts_same x.a y.a x.n x.cap y.cap x.ps W hn (HA.out.below B0) (HB.out.below B0)).mono ?_
 rintro e w1 ⟨rfl, hb1⟩
 have hbb : Below w.heap.size w w1 := B0.trans (hb1.mono B0.size)
 clear B0 hb1
 go_wp2
 go_ret
 exact ⟨rfl, hbb⟩
theorem parts_at {fs ys : List FormI} (hp : partsL ys = partsL fs) {k : Nat} {x y : FormI} (hx : fs[k]? = some x) (hy : ys[k]? = some y) : y.ps = x.ps := by
 have h1 : (partsL ys)[k]? = some y.ps := by unfold partsL; rw [List.getElem?_map, hy]; rfl
 have h2 : (partsL fs)[k]? = some x.ps := by unfold partsL; rw [List.getElem?_map, hx]; rfl
 rw [hp, h2] at h1
 exact (Option.some.inj h1).symm
theorem eqForms_same (a b : Option Addr) (n c d : Nat) (fs ys : List FormI) (w : World) (hn : n ≤ 1048576) (hle : FormsLe 1048576 fs) (hp : partsL ys = partsL fs) (ha : FormsIn w a n fs) (hb : FormsIn w b n ys) :
  Calls Tryz.prog 78 #[.slice a n c, .slice b n d] w fun e w' => e = .returned (.bool true) ∧ Below w.heap.size w w' := by
 have HA : Hid (FormsIn w a n fs) := ha
 have HB : Hid (FormsIn w b n ys) := hb
 have HLE : Hid (FormsLe 1048576 fs) := hle
 have HP : Hid (partsL ys = partsL fs) := hp
 clear ha hb hle hp
 have hn' : (n : Int) ≤ 1048576 := by omega
 go_enter Tryz.func78, Tryz.ntmps78
 go_wp2
 go_loopw [5] (fun i wr => ∃ k : Nat, k ≤ n ∧ i = .int .i64 (k : Int) ∧ Below w.heap.size w wr) (fun i _ => n - (intOf i).toNat)
 case atStart => exact ⟨0, Nat.zero_le _, rfl, Below.refl _ _⟩
 case round =>
  obtain ⟨k, hk, rfl, hnx⟩ := hrel
  by_cases hlt : k < n
  ·obtain ⟨b1, o1, x, e1, hs, hr⟩ := HA.out.at hlt
   obtain ⟨b2, o2, y, e2, hs2, hr2⟩ := HB.out.at hlt
   have hxn := HLE.out k x hs
   have hxy := parts_at HP.out hs hs2
   subst e1 e2
   clear hs hs2
   have h0 := (hr.below hnx).1
   have g0 := (hr2.below hnx).1
   have HX : Hid (PartsIn wr x.a x.n x.ps ∧ PartsIn wr y.a y.n y.ps ∧ y.ps = x.ps) := ⟨(hr.below hnx).2, (hr2.below hnx).2, hxy⟩
   clear hr hr2 hxy
   have hlt' : (k : Int) < (n : Int) := by omega
   have hb1 : b1 < wr.heap.size := zL wr ⟨b1, o1 + k, none⟩ h0
   have hb2 : b2 < wr.heap.size := zL wr ⟨b2, o2 + k, none⟩ g0
   have HC : Hid (∀ w' : World, ((∀ b o, b < wr.heap.size → w'.cell? ⟨b, o, none⟩ = wr.cell? ⟨b, o, none⟩) ∧ Below wr.heap.size wr w') → Calls Tryz.prog 99 #[.agg #[.slice x.a x.n x.cap], .agg #[.slice y.a y.n y.cap]] w' fun e w'' => e = .returned (.bool true) ∧ Below w'.heap.size w' w'') := fun w' q => eqForm_same x y w' hxn HX.out.2.2 (HX.out.1.below q.2) (HX.out.2.1.below q.2)
   go_wp2
   go_region_held3 (fun w' => (∀ b o, b < wr.heap.size → w'.cell? ⟨b, o, none⟩ = wr.cell? ⟨b, o, none⟩) ∧ Below wr.heap.size wr w') (first | exact hS | exact kp_drew _)
    (first | (go_at_call 99; refine (HC.out _ (by assumption)).mono ?_; rintro e w' ⟨rfl, hb1⟩; have hS := kp_step (by assumption) hb1))
   go_wp2
   exact ⟨⟨k + 1, by omega, by go_num, hnx.trans (hS.2.mono hnx.size)⟩, by simp [intOf]; omega⟩
  ·have hkn : k = n := by omega
   subst hkn
   go_wp2
   go_ret
   exact ⟨rfl, hnx⟩

end Go.Proofs.YtfkajnenniapaaaGreat
