/- Contracts. -/
import Derived.Test.YtfkajnenniapaaaGreatPr05
import Derived.Shelf.SlSortCmp.Whole1
import Derived.Shelf.SlSortCmp.NoneTotal
import Derived.Shelf.SlGeneric
import Derived.Ground.SlsfProg
namespace Go.Proofs.YtfkajnenniapaaaGreat
set_option maxRecDepth 100000
set_option maxHeartbeats 8000000
open Go.RowKit
set_option linter.unusedVariables false
set_option linter.unusedSimpArgs false

structure FormI where
 a : Option Addr
 n : Nat
 cap : Nat
 ps : List PartI
deriving Inhabited
def FormAt (w : World) (g off : Nat) (x : FormI) : Prop := w.cell? ⟨g, off, none⟩ = some (.slice x.a x.n x.cap) ∧ PartsIn w x.a x.n x.ps
theorem FormAt.below {w w' : World} {g off : Nat} {x : FormI} (h : FormAt w g off x) (hb : Below w.heap.size w w') : FormAt w' g off x :=
 ⟨(hb.cell (p := ⟨g, off, none⟩) (zL w ⟨g, off, none⟩ h.1)).trans h.1, h.2.below hb⟩
theorem FormAt.lt {w : World} {g off : Nat} {x : FormI} (h : FormAt w g off x) : g < w.heap.size := zL w ⟨g, off, none⟩ h.1
def FormsAt (w : World) (g off : Nat) (fs : List FormI) : Prop := ∀ (k : Nat) (x : FormI), fs[k]? = some x → FormAt w g (off + k) x
theorem FormsAt.below {w w' : World} {g off : Nat} {fs : List FormI} (h : FormsAt w g off fs) (hb : Below w.heap.size w w') : FormsAt w' g off fs := fun k x e => (h k x e).below hb
def FormsIn (w : World) (a : Option Addr) (n : Nat) (fs : List FormI) : Prop := fs.length = n ∧ (0 < n → ∃ b off, a = some ⟨b, off, none⟩ ∧ FormsAt w b off fs)
theorem FormsIn.below {w w' : World} {a : Option Addr} {n : Nat} {fs : List FormI} (h : FormsIn w a n fs) (hb : Below w.heap.size w w') : FormsIn w' a n fs := by
 refine ⟨h.1, fun hl => ?_⟩
 obtain ⟨b, off, e, hr⟩ := h.2 hl
 exact ⟨b, off, e, hr.below hb⟩
theorem FormsIn.at {w : World} {a : Option Addr} {n : Nat} {fs : List FormI} (h : FormsIn w a n fs) {k : Nat} (hk : k < n) :
  ∃ b off x, a = some ⟨b, off, none⟩ ∧ fs[k]? = some x ∧ FormAt w b (off + k) x := by
 obtain ⟨b, off, e, hr⟩ := h.2 (by omega)
 have hl := h.1
 exact ⟨b, off, fs[k]'(by omega), e, List.getElem?_eq_getElem (by omega), hr k _ (List.getElem?_eq_getElem (by omega))⟩
theorem FormsIn.of {w : World} {g n : Nat} {fs : List FormI} (hl : fs.length = n) (h : FormsAt w g 0 fs) : FormsIn w (some ⟨g, 0, none⟩) n fs :=
 ⟨hl, fun _ => ⟨g, 0, rfl, h⟩⟩
def partsL (fs : List FormI) : List (List PartI) := fs.map FormI.ps
def FormsLe (m : Nat) (fs : List FormI) : Prop := ∀ (k : Nat) (x : FormI), fs[k]? = some x → x.n ≤ m
def FormNew (w : World) (L : Nat) (x : FormI) : Prop := x.cap = x.n ∧ ∃ g, x.a = some ⟨g, 0, none⟩ ∧ L ≤ g ∧ g < w.heap.size ∧ Room5 w g x.n
theorem FormNew.below {w w' : World} {L : Nat} {x : FormI} (h : FormNew w L x) (hb : Below w.heap.size w w') : FormNew w' L x := by
 obtain ⟨h0, g, h1, h2, h3, h4⟩ := h
 exact ⟨h0, g, h1, h2, by have := hb.size; omega, h4.below h3 hb⟩
def FormsNew (w : World) (L : Nat) (fs : List FormI) : Prop := ∀ (k : Nat) (x : FormI), fs[k]? = some x → FormNew w L x
theorem FormsNew.below {w w' : World} {L : Nat} {fs : List FormI} (h : FormsNew w L fs) (hb : Below w.heap.size w w') : FormsNew w' L fs := fun k x e => (h k x e).below hb
theorem Tryz.info133 : (Tryz.prog.info? 133).map (fun i => (i.zero, i.size, i.bytes)) = some (some (.agg #[.slice none 0 0]), 1, 24) := by kernel_rfl
theorem PartsIn.set {w : World} {a : Option Addr} {n g o : Nat} {v : Value} {zs : List PartI} (h : PartsIn w a n zs) (hne : ∀ b off, a = some ⟨b, off, none⟩ → b ≠ g) : PartsIn (w.setCell ⟨g, o, none⟩ v) a n zs := by
 refine ⟨h.1, fun hp => ?_⟩
 obtain ⟨b, off, e, hr⟩ := h.2 hp
 refine ⟨b, off, e, fun k x hx => ?_⟩
 have key : ∀ (q : Nat) (u : Value), w.cell? ⟨b, q, none⟩ = some u → (w.setCell ⟨g, o, none⟩ v).cell? ⟨b, q, none⟩ = some u := fun q u hu => by
  rw [World.cell?_setCell_other (h := fun e2 => hne b off e (by have := congrArg Addr.block e2; simp at this; omega))]; exact hu
 obtain ⟨h0, h1, h2, h3, h4⟩ := hr k x hx
 exact ⟨key _ _ h0, key _ _ h1, key _ _ h2, key _ _ h3, key _ _ h4⟩
theorem Room5.setAny {w : World} {g n : Nat} (h : Room5 w g n) (b o : Nat) (v : Value) : Room5 (w.setCell ⟨b, o, none⟩ v) g n := by
 refine ⟨fun j hj => ?_, fun j => by simp only [World.frozen?_setCell]; exact h.2 j⟩
 obtain ⟨u, e⟩ := h.1 j hj
 by_cases q : (⟨b, o, none⟩ : Addr) = ⟨g, j, none⟩
 ·cases q
  exact ⟨v, by simp [go_sem, e]⟩
 ·exact ⟨u, by rw [World.cell?_setCell_other (h := q)]; exact e⟩
theorem toForm_c (x : FormI) (w : World) (hn : x.n ≤ 1048576) (h : PartsIn w x.a x.n x.ps) :
  Calls Tryz.prog 92 #[.agg #[.slice x.a x.n x.cap]] w fun e w' => ∃ y : FormI, e = .returned (.agg #[.slice y.a y.n y.cap]) ∧ y.ps = x.ps ∧ y.n = x.n ∧ PartsIn w' y.a y.n y.ps ∧ FormNew w' w.heap.size y ∧ Below w.heap.size w w' := by
 have HP : Hid (PartsIn w x.a x.n x.ps) := h
 clear h
 obtain ⟨W, hW⟩ : ∃ W, W = ((w.alloc (.cells #[.slice x.a x.n x.cap] 146)).alloc (.cells #[.slice none 0 0] 133)).alloc (.cells #[.slice none 0 0] 133) := ⟨_, rfl⟩
 have hs : W.heap.size = w.heap.size + 3 := by rw [hW]; simp
 have B0 : Below w.heap.size w W := by rw [hW]; exact ((zN).alloc (by simp) _).alloc (by simp; omega) _
 have c1 : W.cell? ⟨w.heap.size + 1, 0, none⟩ = some (.slice none 0 0) := by rw [hW]; go_cell
 have c2 : W.cell? ⟨w.heap.size + 2, 0, none⟩ = some (.slice none 0 0) := by rw [hW]; go_cell
 have f1 : W.frozen? ⟨w.heap.size + 1, 0, none⟩ = false := by rw [hW]; simp [go_sem]
 have f2 : W.frozen? ⟨w.heap.size + 2, 0, none⟩ = false := by rw [hW]; simp [go_sem]
 go_enter Tryz.func92, Tryz.ntmps92
 go_wp2_with fail
 rw [← hW]
 clear hW
 refine (toParts_room x.a x.n x.cap x.ps W hn (HP.out.below B0)).mono ?_
 rintro e w1 ⟨rfl, hat, hlt, hb, hroom⟩
 have HQ : Hid (PartsAt w1 W.heap.size 0 x.ps ∧ Room5 w1 W.heap.size x.n ∧ Below w.heap.size w w1) := ⟨hat, hroom, B0.trans (hb.mono (by omega))⟩
 have d1 : w1.cell? ⟨w.heap.size + 1, 0, none⟩ = some (.slice none 0 0) := (hb.cell (p := ⟨w.heap.size + 1, 0, none⟩) (by show w.heap.size + 1 < W.heap.size; omega)).trans c1
 have d2 : w1.cell? ⟨w.heap.size + 2, 0, none⟩ = some (.slice none 0 0) := (hb.cell (p := ⟨w.heap.size + 2, 0, none⟩) (by show w.heap.size + 2 < W.heap.size; omega)).trans c2
 have g1 : w1.frozen? ⟨w.heap.size + 1, 0, none⟩ = false := (hb.frozen (p := ⟨w.heap.size + 1, 0, none⟩) (by show w.heap.size + 1 < W.heap.size; omega)).trans f1
 have g2 : w1.frozen? ⟨w.heap.size + 2, 0, none⟩ = false := (hb.frozen (p := ⟨w.heap.size + 2, 0, none⟩) (by show w.heap.size + 2 < W.heap.size; omega)).trans f2
 have hw : w.heap.size + 2 < w1.heap.size := by omega
 have HS : Hid (W.heap.size = w.heap.size + 3) := hs
 clear hat hroom hb c1 c2 f1 f2 B0 hs
 go_wp2
 refine bodyPost_ret (v := .agg #[.slice (some ⟨W.heap.size, 0, none⟩) x.n x.n]) (by simp [results, Tryz.results92, go_sem, d1, d2, hw]) rfl ⟨⟨some ⟨W.heap.size, 0, none⟩, x.n, x.n, x.ps⟩, rfl, rfl, rfl, ?_, ⟨rfl, _, rfl, by have := HS.out; omega, by simp only [World.size_setCell]; exact hlt, (HQ.out.2.1.setAny _ _ _).setAny _ _ _⟩, ?_⟩
 ·exact ((PartsIn.of HP.out.1 HQ.out.1).set (fun b off e => by cases e; have := HS.out; omega)).set (fun b off e => by cases e; have := HS.out; omega)
 ·exact (HQ.out.2.2.setCell (by simp; omega) _).setCell (by simp) _
theorem forms_put {w : World} {B k n : Nat} {ys : List FormI} {y : FormI} (hroom : IntRoom w B n) (hk : k < n) (hl : ys.length = k) (hat : FormsAt w B 0 ys) (hnew : FormsNew w (B + 1) ys) (hp : PartsIn w y.a y.n y.ps) (hy : FormNew w (B + 1) y) :
  IntRoom (w.setCell ⟨B, k, none⟩ (.slice y.a y.n y.cap)) B n ∧ FormsAt (w.setCell ⟨B, k, none⟩ (.slice y.a y.n y.cap)) B 0 (ys ++ [y]) ∧ FormsNew (w.setCell ⟨B, k, none⟩ (.slice y.a y.n y.cap)) (B + 1) (ys ++ [y]) := by
 have hne : ∀ z : FormI, FormNew w (B + 1) z → ∀ b off, z.a = some ⟨b, off, none⟩ → b ≠ B := fun z hz b off e => by
  obtain ⟨_, g, e', hg, _⟩ := hz
  rw [e] at e'
  cases e'
  omega
 have hns : ∀ z : FormI, FormNew w (B + 1) z → FormNew (w.setCell ⟨B, k, none⟩ (.slice y.a y.n y.cap)) (B + 1) z := fun z hz => by
  obtain ⟨h0, g, e', hg, hlt, hr⟩ := hz
  exact ⟨h0, g, e', hg, by simp only [World.size_setCell]; exact hlt, hr.setAny _ _ _⟩
 obtain ⟨u, hu⟩ := hroom.1 k hk
 refine ⟨hroom.set _ _, fun j x e => ?_, fun j x e => ?_⟩
 ·by_cases hj : j < k
  ·rw [List.getElem?_append_left (by omega)] at e
   obtain ⟨h1, h2⟩ := hat j x e
   refine ⟨?_, h2.set (hne x (hnew j x e))⟩
   rw [World.cell?_setCell_other (h := fun q => by have := congrArg Addr.off q; simp at this; omega)]
   exact h1
  ·have hjk : j = k := by
    by_cases q : j < (ys ++ [y]).length
    ·simp at q; omega
    ·rw [List.getElem?_eq_none (by omega)] at e; cases e
   subst hjk
   rw [← hl, List.getElem?_append_right (Nat.le_refl _), Nat.sub_self] at e
   simp at e
   subst e
   refine ⟨?_, hp.set (hne y hy)⟩
   rw [Nat.zero_add]
   simp [go_sem, hu]
 ·rcases List.mem_append.1 (List.mem_of_getElem? e) with h | h
  ·obtain ⟨i, hi⟩ := List.mem_iff_getElem?.1 h
   exact hns x (hnew i x hi)
  ·rw [List.mem_singleton.1 h]
   exact hns y hy
structure FormsTo (w0 w : World) (n : Nat) (fs ys : List FormI) : Prop where
 ln : ys.length = n
 ps : partsL ys = partsL fs
 at' : FormsAt w w0.heap.size 0 ys
 nw : FormsNew w (w0.heap.size + 1) ys
 rm : IntRoom w w0.heap.size n
 lt : w0.heap.size < w.heap.size
 bl : Below w0.heap.size w0 w
theorem toForms_c (a : Option Addr) (n cap : Nat) (fs : List FormI) (w : World) (hn : n ≤ 1048576) (hle : FormsLe 1048576 fs) (h : FormsIn w a n fs) :
  Calls Tryz.prog 69 #[.slice a n cap] w fun e w' => e = .returned (.slice (some ⟨w.heap.size, 0, none⟩) n n) ∧ ∃ ys, FormsTo w w' n fs ys := by
 obtain ⟨i0, hi, hz0, hz1, hz2⟩ := info_parts Tryz.info133
 obtain ⟨wm, hmk, hownm, hgrm⟩ := run_make_full (P := Tryz.prog) (w := w) w.heap.size 71 133 i0 (.agg #[.slice none 0 0]) 1 Tryz.underlying71 hi hz0 hz1 .i64 .i64 n (by rw [hz2]; omega) (by unfold maxLen; omega) (Nat.le_refl _)
 have H : Hid (FormsIn w a n fs) := h
 have HLE : Hid (FormsLe 1048576 fs) := hle
 have hz : Hid (fs.length = n) := h.1
 clear h hle
 have HM : Hid (IntRoom wm w.heap.size n ∧ w.heap.size < wm.heap.size) := by
  refine ⟨⟨fun j hj => ?_, fun j => hownm.frozenAt j⟩, (hownm.lt _ rfl).2⟩
  have hl := hownm.1
  exact ⟨_, (hownm.cellAt j (by omega)).trans (List.getElem?_eq_getElem (by omega))⟩
 clear hownm
 have HG : Hid (w.grownBy wm none) := hgrm
 clear hgrm
 have hn' : (n : Int) ≤ 1048576 := by omega
 go_enter Tryz.func69, Tryz.ntmps69
 go_wp2
 go_loopw [4] (fun i wr => ∃ (k : Nat) (ys : List FormI), k ≤ n ∧ i = .int .i64 (k : Int) ∧ ys.length = k ∧ partsL ys = partsL (fs.take k) ∧ IntRoom wr w.heap.size n ∧ FormsAt wr w.heap.size 0 ys ∧ FormsNew wr (w.heap.size + 1) ys ∧ w.heap.size < wr.heap.size ∧ Below w.heap.size w wr)
  (fun i _ => n - (intOf i).toNat)
 case atStart => exact ⟨0, [], Nat.zero_le _, rfl, rfl, rfl, HM.out.1, fun k r e => by simp at e, fun k r e => by simp at e, HM.out.2, (Below.refl _ _).grown HG.out (Nat.le_refl _) (fun k e => by cases e)⟩
 case round =>
  obtain ⟨k, ys, hk, rfl, hyl, hyp, hroom, hat, hnew, hlt0, hnx⟩ := hrel
  have HY : Hid (ys.length = k ∧ partsL ys = partsL (fs.take k)) := ⟨hyl, hyp⟩
  clear hyl hyp
  by_cases hlt : k < n
  ·obtain ⟨b, off, x, rfl, hs, hr⟩ := H.out.at hlt
   have HS : Hid (fs[k]? = some x) := hs
   have hb : b < w.heap.size := hr.lt
   have hx : x.n ≤ 1048576 := HLE.out k x hs
   clear hs
   have hr2 := hr.below hnx
   have h0 := hr2.1
   have HX : Hid (PartsIn wr x.a x.n x.ps) := hr2.2
   have HD : Hid (IntRoom wr w.heap.size n ∧ FormsAt wr w.heap.size 0 ys ∧ FormsNew wr (w.heap.size + 1) ys ∧ Below w.heap.size w wr) := ⟨hroom, hat, hnew, hnx⟩
   clear hroom hat hnew hr hr2 hnx
   have hlt' : (k : Int) < (n : Int) := by omega
   go_wp2_with fail
   refine (toForm_c x _ hx HX.out).mono ?_
   rintro e w1 ⟨y, rfl, hyps, hyn, hyP, hyN, hb1⟩
   have hz1 := hb1.size
   have HB : Hid (Below wr.heap.size wr w1) := hb1
   have hyN' : FormNew w1 (w.heap.size + 1) y := by
    obtain ⟨q0, g, q1, q2, q3⟩ := hyN
    exact ⟨q0, g, q1, by omega, q3⟩
   obtain ⟨P1, P2, P3⟩ := forms_put (HD.out.1.below hlt0 hb1) hlt HY.out.1 (HD.out.2.1.below hb1) (HD.out.2.2.1.below hb1) hyP hyN'
   have RM : Hid (IntRoom (w1.setCell ⟨w.heap.size, k, none⟩ (.slice y.a y.n y.cap)) w.heap.size n ∧ FormsAt (w1.setCell ⟨w.heap.size, k, none⟩ (.slice y.a y.n y.cap)) w.heap.size 0 (ys ++ [y]) ∧ FormsNew (w1.setCell ⟨w.heap.size, k, none⟩ (.slice y.a y.n y.cap)) (w.heap.size + 1) (ys ++ [y]) ∧ Below w.heap.size w (w1.setCell ⟨w.heap.size, k, none⟩ (.slice y.a y.n y.cap))) := ⟨P1, P2, P3, (HD.out.2.2.2.trans (hb1.mono HD.out.2.2.2.size)).setCell (Nat.le_refl _) _⟩
   have HP : Hid (partsL (ys ++ [y]) = partsL (fs.take (k + 1))) := by
    show partsL (ys ++ [y]) = partsL (fs.take (k + 1))
    have h1 := HY.out.2
    unfold partsL at h1 ⊢
    rw [List.map_append, h1, List.take_add_one, HS.out]
    simp [hyps]
   obtain ⟨u, hu⟩ := (HD.out.1.below hlt0 hb1).1 k hlt
   have hf := (HD.out.1.below hlt0 hb1).2 k
   clear P1 P2 P3 hyps hyn hyP hyN hyN' hb1 h0
   go_wp2
   exact ⟨⟨k + 1, ys ++ [y], by omega, by go_num, by simp [HY.out.1], HP.out, RM.out.1, RM.out.2.1, RM.out.2.2.1, by simp only [World.size_setCell]; omega, RM.out.2.2.2⟩, by simp [intOf]; omega⟩
  ·have hkn : k = n := by omega
   subst hkn
   have HQ : Hid (FormsTo w wr k fs ys) := by
    refine ⟨HY.out.1, ?_, hat, hnew, hroom, hlt0, hnx⟩
    have := HY.out.2
    rw [List.take_of_length_le (by rw [hz.out]; exact Nat.le_refl _)] at this
    exact this
   go_wp2
   go_ret
   exact ⟨rfl, ys, HQ.out⟩
theorem eqForm_same (x y : FormI) (w : World) (hn : x.n ≤ 1048576) (hp : y.ps = x.ps) (ha : PartsIn w x.a x.n x.ps) (hb : PartsIn w y.a y.n y.ps) :
  Calls Tryz.prog 99 #[.agg #[.slice x.a x.n x.cap], .agg #[.slice y.a y.n y.cap]] w fun e w' => e = .returned (.bool true) ∧ Below w.heap.size w w' := by
 have hyn : y.n = x.n := by have h1 := ha.1; have h2 := hb.1; rw [hp] at h2; omega
 rw [hyn] at hb
 rw [hp] at hb
 rw [hyn]
 clear hyn hp
 have HA : Hid (PartsIn w x.a x.n x.ps) := ha
 have HB : Hid (PartsIn w y.a x.n x.ps) := hb
 clear ha hb
 obtain ⟨W, hW⟩ : ∃ W, W = (w.alloc (.cells #[.slice x.a x.n x.cap] 133)).alloc (.cells #[.slice y.a x.n y.cap] 133) := ⟨_, rfl⟩
 have B0 : Below w.heap.size w W := by rw [hW]; exact (zN).alloc (by simp) _
 go_enter Tryz.func99, Tryz.ntmps99
 go_wp2_with fail
 rw [← hW]
 clear hW
 refine (eqParts_same x.a y.a x.n x.cap y.cap x.ps W hn (HA.out.below B0) (HB.out.below B0)).mono ?_
 rintro e w1 ⟨rfl, hb1⟩
 have hbb : Below w.heap.size w w1 := B0.trans (hb1.mono B0.size)
 clear B0 hb1
 go_wp2
 go_ret
 exact ⟨rfl, hbb⟩
theorem parts_at {fs ys : List FormI} (hp : partsL ys = partsL fs) {k : Nat} {x y : FormI} (hx : fs[k]? = some x) (hy : ys[k]? = some y) : y.ps = x.ps := by
 have h1 : (partsL ys)[k]? = some y.ps := by unfold partsL; rw [List.getElem?_map, hy]; rfl
 have h2 : (partsL fs)[k]? = some x.ps := by unfold partsL; rw [List.getElem?_map, hx]; rfl
 rw [hp, h2] at h1
 exact (Option.some.inj h1).symm
theorem eqForms_same (a b : Option Addr) (n c d : Nat) (fs ys : List FormI) (w : World) (hn : n ≤ 1048576) (hle : FormsLe 1048576 fs) (hp : partsL ys = partsL fs) (ha : FormsIn w a n fs) (hb : FormsIn w b n ys) :
  Calls Tryz.prog 78 #[.slice a n c, .slice b n d] w fun e w' => e = .returned (.bool true) ∧ Below w.heap.size w w' := by
 have HA : Hid (FormsIn w a n fs) := ha
 have HB : Hid (FormsIn w b n ys) := hb
 have HLE : Hid (FormsLe 1048576 fs) := hle
 have HP : Hid (partsL ys = partsL fs) := hp
 clear ha hb hle hp
 have hn' : (n : Int) ≤ 1048576 := by omega
 go_enter Tryz.func78, Tryz.ntmps78
 go_wp2
 go_loopw [5] (fun i wr => ∃ k : Nat, k ≤ n ∧ i = .int .i64 (k : Int) ∧ Below w.heap.size w wr) (fun i _ => n - (intOf i).toNat)
 case atStart => exact ⟨0, Nat.zero_le _, rfl, Below.refl _ _⟩
 case round =>
  obtain ⟨k, hk, rfl, hnx⟩ := hrel
  by_cases hlt : k < n
  ·obtain ⟨b1, o1, x, e1, hs, hr⟩ := HA.out.at hlt
   obtain ⟨b2, o2, y, e2, hs2, hr2⟩ := HB.out.at hlt
   have hxn := HLE.out k x hs
   have hxy := parts_at HP.out hs hs2
   subst e1 e2
   clear hs hs2
   have h0 := (hr.below hnx).1
   have g0 := (hr2.below hnx).1
   have HX : Hid (PartsIn wr x.a x.n x.ps ∧ PartsIn wr y.a y.n y.ps ∧ y.ps = x.ps) := ⟨(hr.below hnx).2, (hr2.below hnx).2, hxy⟩
   clear hr hr2 hxy
   have hlt' : (k : Int) < (n : Int) := by omega
   have hb1 : b1 < wr.heap.size := zL wr ⟨b1, o1 + k, none⟩ h0
   have hb2 : b2 < wr.heap.size := zL wr ⟨b2, o2 + k, none⟩ g0
   have HC : Hid (∀ w' : World, ((∀ b o, b < wr.heap.size → w'.cell? ⟨b, o, none⟩ = wr.cell? ⟨b, o, none⟩) ∧ Below wr.heap.size wr w') → Calls Tryz.prog 99 #[.agg #[.slice x.a x.n x.cap], .agg #[.slice y.a y.n y.cap]] w' fun e w'' => e = .returned (.bool true) ∧ Below w'.heap.size w' w'') := fun w' q => eqForm_same x y w' hxn HX.out.2.2 (HX.out.1.below q.2) (HX.out.2.1.below q.2)
   go_wp2
   go_region_held3 (fun w' => (∀ b o, b < wr.heap.size → w'.cell? ⟨b, o, none⟩ = wr.cell? ⟨b, o, none⟩) ∧ Below wr.heap.size wr w') (first | exact hS | exact kp_drew _)
    (first | (go_at_call 99; refine (HC.out _ (by assumption)).mono ?_; rintro e w' ⟨rfl, hb1⟩; have hS := kp_step (by assumption) hb1))
   go_wp2
   exact ⟨⟨k + 1, by omega, by go_num, hnx.trans (hS.2.mono hnx.size)⟩, by simp [intOf]; omega⟩
  ·have hkn : k = n := by omega
   subst hkn
   go_wp2
   go_ret
   exact ⟨rfl, hnx⟩

def Box2 (w : World) (B : Nat) (x y : Value) : Prop := w.cell? ⟨B, 0, none⟩ = some x ∧ w.cell? ⟨B, 1, none⟩ = some y
theorem Box2.lt {w : World} {B : Nat} {x y : Value} (h : Box2 w B x y) : B < w.heap.size := zL w ⟨B, 0, none⟩ h.1
theorem Box2.below {w w' : World} {B : Nat} {x y : Value} (h : Box2 w B x y) (hb : Below w.heap.size w w') : Box2 w' B x y :=
 ⟨(hb.cell (p := ⟨B, 0, none⟩) h.lt).trans h.1, (hb.cell (p := ⟨B, 1, none⟩) h.lt).trans h.2⟩
theorem Box2.grown {w w' : World} {B : Nat} {x y : Value} {row : Option Nat} (h : Box2 w B x y) (hg : w.grownBy w' row) (hne : some B ≠ row) : Box2 w' B x y :=
 ⟨hg.cell h.1 hne, hg.cell h.2 hne⟩
theorem Box2.new (w : World) (x y : Value) (t : TypeId) : Box2 (w.alloc (.cells #[x, y] t)) w.heap.size x y := ⟨by simp, by simp⟩

section
open Go.Shelf
def Tryz.sortInt_ren : Go.Shelf.Ren := ⟨fun | 6 => 141 | 15 => 153 | 14 => 152 | 28 => 168 | 29 => 169 | 20 => 160 | 21 => 161 | 22 => 162 | 23 => 163 | 24 => 164 | 25 => 165 | 26 => 166 | 27 => 167 | 46 => 174 | 47 => 175 | 48 => 176 | 49 => 177 | 50 => 178 | 57 => 179 | n => n, fun | 22 => 26 | 24 => 2 | 25 => 169 | 3 => 3 | 39 => 210 | 0 => 0 | 53 => 228 | 55 => 230 | 4 => 4 | 46 => 221 | 45 => 220 | 50 => 225 | 5 => 5 | 9 => 9 | 66 => 243 | 70 => 247 | 76 => 249 | 77 => 250 | n => n, fun | n => n⟩
theorem Tryz.sortInt : Go.Proofs.SlLaysF.n6 Tryz.prog Tryz.sortInt_ren := {
 mixed := by kernel_rfl
 f6 := ⟨Tryz.f141.name, by decide, Tryz.func141.trans (congrArg some (by kernel_rfl))⟩
 f14 := ⟨Tryz.f152.name, by decide, Tryz.func152.trans (congrArg some (by kernel_rfl))⟩
 f15 := Tryz.func153.trans (congrArg some (by kernel_rfl))
 f20 := ⟨Tryz.f160.name, by decide, Tryz.func160.trans (congrArg some (by kernel_rfl))⟩
 f21 := ⟨Tryz.f161.name, by decide, Tryz.func161.trans (congrArg some (by kernel_rfl))⟩
 f22 := ⟨Tryz.f162.name, by decide, Tryz.func162.trans (congrArg some (by kernel_rfl))⟩
 f23 := ⟨Tryz.f163.name, by decide, Tryz.func163.trans (congrArg some (by kernel_rfl))⟩
 f24 := ⟨Tryz.f164.name, by decide, Tryz.func164.trans (congrArg some (by kernel_rfl))⟩
 f25 := ⟨Tryz.f165.name, by decide, Tryz.func165.trans (congrArg some (by kernel_rfl))⟩
 f26 := ⟨Tryz.f166.name, by decide, Tryz.func166.trans (congrArg some (by kernel_rfl))⟩
 f27 := ⟨Tryz.f167.name, by decide, Tryz.func167.trans (congrArg some (by kernel_rfl))⟩
 f28 := Tryz.func168.trans (congrArg some (by kernel_rfl))
 f29 := Tryz.func169.trans (congrArg some (by kernel_rfl))
 f46 := ⟨Tryz.f174.name, by decide, Tryz.func174.trans (congrArg some (by kernel_rfl))⟩
 f47 := Tryz.func175.trans (congrArg some (by kernel_rfl))
 f48 := Tryz.func176.trans (congrArg some (by kernel_rfl))
 f49 := ⟨Tryz.f177.name, by decide, Tryz.func177.trans (congrArg some (by kernel_rfl))⟩
 f50 := ⟨Tryz.f178.name, by decide, Tryz.func178.trans (congrArg some (by kernel_rfl))⟩
 f57 := ⟨Tryz.f179.name, by decide, Tryz.func179.trans (congrArg some (by kernel_rfl))⟩
 t0 := Tryz.underlying0
 a0 := Tryz.isAgg0
 z0 := Tryz.sizeOf0
 v0 := Tryz.zeroValue0
 t3 := Tryz.underlying3
 a3 := Tryz.isAgg3
 z3 := Tryz.sizeOf3
 v3 := Tryz.zeroValue3
 t4 := Tryz.underlying4
 a4 := Tryz.isAgg4
 z4 := Tryz.sizeOf4
 v4 := Tryz.zeroValue4
 t5 := Tryz.underlying5
 a5 := Tryz.isAgg5
 z5 := Tryz.sizeOf5
 v5 := Tryz.zeroValue5
 t9 := Tryz.underlying9
 a9 := Tryz.isAgg9
 z9 := Tryz.sizeOf9
 v9 := Tryz.zeroValue9
 t22 := Tryz.underlying26
 a22 := Tryz.isAgg26
 z22 := Tryz.sizeOf26
 v22 := Tryz.zeroValue26
 a24 := Tryz.isAgg2
 z24 := Tryz.sizeOf2
 t25 := Tryz.underlying169
 a25 := Tryz.isAgg169
 z25 := Tryz.sizeOf169
 v25 := Tryz.zeroValue169
 t39 := Tryz.underlying210
 a39 := Tryz.isAgg210
 z39 := Tryz.sizeOf210
 v39 := Tryz.zeroValue210
 t45 := Tryz.underlying220
 a45 := Tryz.isAgg220
 z45 := Tryz.sizeOf220
 v45 := Tryz.zeroValue220
 t46 := Tryz.underlying221
 a46 := Tryz.isAgg221
 z46 := Tryz.sizeOf221
 v46 := Tryz.zeroValue221
 t50 := Tryz.underlying225
 a50 := Tryz.isAgg225
 z50 := Tryz.sizeOf225
 v50 := Tryz.zeroValue225
 t53 := Tryz.underlying228
 a53 := Tryz.isAgg228
 z53 := Tryz.sizeOf228
 v53 := Tryz.zeroValue228
 t55 := Tryz.underlying230
 a55 := Tryz.isAgg230
 z55 := Tryz.sizeOf230
 v55 := Tryz.zeroValue230
 t66 := Tryz.underlying243
 a66 := Tryz.isAgg243
 z66 := Tryz.sizeOf243
 v66 := Tryz.zeroValue243
 t70 := Tryz.underlying247
 a70 := Tryz.isAgg247
 z70 := Tryz.sizeOf247
 v70 := Tryz.zeroValue247
 t76 := Tryz.underlying249
 a76 := Tryz.isAgg249
 z76 := Tryz.sizeOf249
 v76 := Tryz.zeroValue249
 t77 := Tryz.underlying250
 a77 := Tryz.isAgg250
 z77 := Tryz.sizeOf250
 v77 := Tryz.zeroValue250 }
def Tryz.sortInt0_ren : Go.Shelf.Ren := ⟨fun | 6 => 141 | 15 => 153 | 14 => 152 | 28 => 168 | 29 => 169 | 20 => 160 | 21 => 161 | 22 => 162 | 23 => 163 | 24 => 164 | 25 => 165 | 26 => 166 | 27 => 167 | 46 => 174 | 47 => 175 | 48 => 176 | 49 => 177 | 50 => 178 | 57 => 179 | n => n, fun | 22 => 26 | 24 => 2 | 25 => 169 | 3 => 3 | 39 => 210 | 0 => 0 | 53 => 228 | 55 => 230 | 4 => 4 | 46 => 221 | 45 => 220 | 50 => 225 | 5 => 5 | 9 => 9 | 66 => 243 | 70 => 247 | 76 => 249 | 77 => 250 | n => n, fun | n => n⟩
theorem Tryz.sortInt0 : Go.Proofs.SlLaysF0.n6 Tryz.prog Tryz.sortInt0_ren := {
 mixed := by kernel_rfl
 f6 := ⟨Tryz.f141.name, by decide, Tryz.func141.trans (congrArg some (by kernel_rfl))⟩
 f14 := ⟨Tryz.f152.name, by decide, Tryz.func152.trans (congrArg some (by kernel_rfl))⟩
 f15 := Tryz.func153.trans (congrArg some (by kernel_rfl))
 f20 := ⟨Tryz.f160.name, by decide, Tryz.func160.trans (congrArg some (by kernel_rfl))⟩
 f21 := ⟨Tryz.f161.name, by decide, Tryz.func161.trans (congrArg some (by kernel_rfl))⟩
 f22 := ⟨Tryz.f162.name, by decide, Tryz.func162.trans (congrArg some (by kernel_rfl))⟩
 f23 := ⟨Tryz.f163.name, by decide, Tryz.func163.trans (congrArg some (by kernel_rfl))⟩
 f24 := ⟨Tryz.f164.name, by decide, Tryz.func164.trans (congrArg some (by kernel_rfl))⟩
 f25 := ⟨Tryz.f165.name, by decide, Tryz.func165.trans (congrArg some (by kernel_rfl))⟩
 f26 := ⟨Tryz.f166.name, by decide, Tryz.func166.trans (congrArg some (by kernel_rfl))⟩
 f27 := ⟨Tryz.f167.name, by decide, Tryz.func167.trans (congrArg some (by kernel_rfl))⟩
 f28 := Tryz.func168.trans (congrArg some (by kernel_rfl))
 f29 := Tryz.func169.trans (congrArg some (by kernel_rfl))
 f46 := ⟨Tryz.f174.name, by decide, Tryz.func174.trans (congrArg some (by kernel_rfl))⟩
 f47 := Tryz.func175.trans (congrArg some (by kernel_rfl))
 f48 := Tryz.func176.trans (congrArg some (by kernel_rfl))
 f49 := ⟨Tryz.f177.name, by decide, Tryz.func177.trans (congrArg some (by kernel_rfl))⟩
 f50 := ⟨Tryz.f178.name, by decide, Tryz.func178.trans (congrArg some (by kernel_rfl))⟩
 f57 := ⟨Tryz.f179.name, by decide, Tryz.func179.trans (congrArg some (by kernel_rfl))⟩
 t0 := Tryz.underlying0
 a0 := Tryz.isAgg0
 z0 := Tryz.sizeOf0
 v0 := Tryz.zeroValue0
 t3 := Tryz.underlying3
 a3 := Tryz.isAgg3
 z3 := Tryz.sizeOf3
 v3 := Tryz.zeroValue3
 t4 := Tryz.underlying4
 a4 := Tryz.isAgg4
 z4 := Tryz.sizeOf4
 v4 := Tryz.zeroValue4
 t5 := Tryz.underlying5
 a5 := Tryz.isAgg5
 z5 := Tryz.sizeOf5
 v5 := Tryz.zeroValue5
 t9 := Tryz.underlying9
 a9 := Tryz.isAgg9
 z9 := Tryz.sizeOf9
 v9 := Tryz.zeroValue9
 t22 := Tryz.underlying26
 a22 := Tryz.isAgg26
 z22 := Tryz.sizeOf26
 v22 := Tryz.zeroValue26
 t25 := Tryz.underlying169
 a25 := Tryz.isAgg169
 z25 := Tryz.sizeOf169
 v25 := Tryz.zeroValue169
 t39 := Tryz.underlying210
 a39 := Tryz.isAgg210
 z39 := Tryz.sizeOf210
 v39 := Tryz.zeroValue210
 t45 := Tryz.underlying220
 a45 := Tryz.isAgg220
 z45 := Tryz.sizeOf220
 v45 := Tryz.zeroValue220
 t46 := Tryz.underlying221
 a46 := Tryz.isAgg221
 z46 := Tryz.sizeOf221
 v46 := Tryz.zeroValue221
 t50 := Tryz.underlying225
 a50 := Tryz.isAgg225
 z50 := Tryz.sizeOf225
 v50 := Tryz.zeroValue225
 t53 := Tryz.underlying228
 a53 := Tryz.isAgg228
 z53 := Tryz.sizeOf228
 v53 := Tryz.zeroValue228
 t55 := Tryz.underlying230
 a55 := Tryz.isAgg230
 z55 := Tryz.sizeOf230
 v55 := Tryz.zeroValue230
 t66 := Tryz.underlying243
 a66 := Tryz.isAgg243
 z66 := Tryz.sizeOf243
 v66 := Tryz.zeroValue243
 t70 := Tryz.underlying247
 a70 := Tryz.isAgg247
 z70 := Tryz.sizeOf247
 v70 := Tryz.zeroValue247
 t76 := Tryz.underlying249
 a76 := Tryz.isAgg249
 z76 := Tryz.sizeOf249
 v76 := Tryz.zeroValue249
 t77 := Tryz.underlying250
 a77 := Tryz.isAgg250
 z77 := Tryz.sizeOf250
 v77 := Tryz.zeroValue250 }
end

end Go.Proofs.YtfkajnenniapaaaGreat
