/- Contracts. -/
import Derived.Test.YtpnpllpbbkibbaaGreatDoorPw09
import Derived.Test.YtpnpllpbbkibbaaGreatDoorPw16
import Derived.Shelf.SlSortCmp.WholeK
import Derived.Sort.OwnSorted
import Derived.Laws.AppendOwn
namespace Go.Proofs.YtpnpllpbbkibbaaGreatDoor
set_option maxRecDepth 100000
set_option maxHeartbeats 8000000
open Go.RowKit
set_option linter.unusedVariables false
set_option linter.unusedSimpArgs false

def flatLk : List LkI → List Value
 | [] => []
 | p :: ps => .int .i64 p.e :: .int .i64 p.c :: .int .i64 p.p :: .int .i64 p.f :: flatLk ps
theorem flatLk_append (a b : List LkI) : flatLk (a ++ b) = flatLk a ++ flatLk b := by
 induction a with
 | nil => rfl
 | cons p ps ih => simp [flatLk, ih]
theorem flatLk_len (a : List LkI) : (flatLk a).length = a.length * 4 := by
 induction a with
 | nil => rfl
 | cons p ps ih => simp [flatLk, ih]; omega
theorem flatLk_at : ∀ (a : List LkI) (k : Nat) (p : LkI), a[k]? = some p → (flatLk a)[k * 4]? = some (.int .i64 p.e) ∧ (flatLk a)[k * 4 + 1]? = some (.int .i64 p.c) ∧ (flatLk a)[k * 4 + 2]? = some (.int .i64 p.p) ∧ (flatLk a)[k * 4 + 3]? = some (.int .i64 p.f)
 | [], _, _, h => by simp at h
 | q :: qs, 0, p, h => by simp at h; subst h; exact ⟨rfl, rfl, rfl, rfl⟩
 | q :: qs, k + 1, p, h => by
  have := flatLk_at qs k p (by simpa using h)
  rw [show (k + 1) * 4 = k * 4 + 1 + 1 + 1 + 1 by omega, show k * 4 + 1 + 1 + 1 + 1 + 1 = (k * 4 + 1) + 1 + 1 + 1 + 1 by omega, show k * 4 + 1 + 1 + 1 + 1 + 2 = (k * 4 + 2) + 1 + 1 + 1 + 1 by omega, show k * 4 + 1 + 1 + 1 + 1 + 3 = (k * 4 + 3) + 1 + 1 + 1 + 1 by omega]
  simpa [flatLk] using this
theorem flatLk_one (a : List LkI) : ∀ u ∈ flatLk a, u.oneCell' = true := by
 induction a with
 | nil => simp [flatLk]
 | cons p ps ih =>
  intro u hu
  simp only [flatLk, List.mem_cons] at hu
  rcases hu with rfl | rfl | rfl | rfl | hu
  ·rfl
  ·rfl
  ·rfl
  ·rfl
  ·exact ih u hu
def OwnLk (w : World) (B : Nat) (v : Value) (gs : List LkI) : Prop := w.ownsRow B 98 4 v gs.length (flatLk gs)
theorem OwnLk.shape {w : World} {B : Nat} {v : Value} {gs : List LkI} (h : OwnLk w B v gs) (hv : v ≠ .slice none 0 0) : ∃ g cap, v = .slice (some ⟨g, 0, none⟩) gs.length cap := by
 have h0 : w.ownsRow B 98 4 v gs.length (flatLk gs) := h
 rcases h0.2 with ⟨h', _⟩ | ⟨g, cap, cur, h', _⟩
 ·exact absurd h' hv
 ·exact ⟨g, cap, h'⟩
theorem OwnLk.below {w w' : World} {B : Nat} {v : Value} {gs : List LkI} (h : OwnLk w B v gs) (hb : Below w.heap.size w w') : OwnLk w' B v gs :=
 World.ownsRow.kept (row := none) h ⟨hb.os, hb.tape, hb.output, hb.size, fun k hk _ => hb.block k hk⟩ (by cases v.ownBlock <;> simp)
theorem ownLk_lower {w : World} {B B' : Nat} {v : Value} {gs : List LkI} (h : OwnLk w B v gs) (hb : B' ≤ B) : OwnLk w B' v gs := by
 have h0 : w.ownsRow B 98 4 v gs.length (flatLk gs) := h
 refine ⟨h0.1, ?_⟩
 rcases h0.2 with h' | ⟨g, cap, cur, e, hg, rest⟩
 ·exact .inl h'
 ·exact .inr ⟨g, cap, cur, e, Nat.le_trans hb hg, rest⟩
theorem ownLk_push {w : World} {B : Nat} {v : Value} {es : List LkI} {x : LkI} (h : w.ownsRow B 98 4 v (es.length + 1) (flatLk es ++ [.int .i64 x.e, .int .i64 x.c, .int .i64 x.p, .int .i64 x.f])) : OwnLk w B v (es ++ [x]) := by
 unfold OwnLk
 rw [List.length_append, flatLk_append]
 exact h
theorem ownLk_grown {w1 Z w' : World} {B : Nat} {v : Value} {es : List LkI} (ho : OwnLk Z B v es) (hb : Below B w1 Z) (hg : Z.grownBy w' v.ownBlock) (hB : B ≤ Z.heap.size) : Below B w1 w' := by
 have h0 : Z.ownsRow B 98 4 v es.length (flatLk es) := ho
 exact hb.grown hg hB (fun j hj => (h0.lt j hj).1)
def LkV (w : World) (a : Option Addr) (zs : List LkI) : Prop := ∀ k p, zs[k]? = some p → ∃ g, a = some ⟨g, 0, none⟩ ∧ LkAt w g (k * 4) p
theorem LkV.below {w w' : World} {a : Option Addr} {zs : List LkI} (h : LkV w a zs) (hb : Below w.heap.size w w') : LkV w' a zs := fun k p e => by
 obtain ⟨g, ha, h1⟩ := h k p e
 exact ⟨g, ha, h1.below hb (zL w ⟨g, k * 4, none⟩ h1.1)⟩
theorem LkV.isIn {w : World} {a : Option Addr} {n : Nat} {zs : List LkI} (hn : zs.length = n) (h : LkV w a zs) : LkIn w a n zs := by
 refine ⟨hn, fun hp => ?_⟩
 obtain ⟨g, ha, _⟩ := h 0 _ (List.getElem?_eq_getElem (by omega))
 refine ⟨g, 0, ha, fun k x e => ?_⟩
 obtain ⟨g', ha', hx⟩ := h k x e
 rw [ha] at ha'
 cases ha'
 rw [Nat.zero_add]
 exact hx
theorem OwnLk.view {w : World} {B : Nat} {a : Option Addr} {n cap : Nat} {zs : List LkI} (h : OwnLk w B (.slice a n cap) zs) : LkV w a zs := by
 intro k p e
 have hk : k < zs.length := by
  by_cases q : k < zs.length
  ·exact q
  ·rw [List.getElem?_eq_none (by omega)] at e; cases e
 have h0 : w.ownsRow B 98 4 (.slice a n cap) zs.length (flatLk zs) := h
 rcases h0.2 with ⟨h', h''⟩ | ⟨g, cap', cur, h', _⟩
 ·omega
 ·simp at h'
  obtain ⟨rfl, rfl, rfl⟩ := h'
  obtain ⟨f0, f1, f2, f3⟩ := flatLk_at zs k p e
  exact ⟨g, rfl, (h0.cellAt (k * 4) (by omega)).trans f0, (h0.cellAt (k * 4 + 1) (by omega)).trans f1, (h0.cellAt (k * 4 + 2) (by omega)).trans f2, (h0.cellAt (k * 4 + 3) (by omega)).trans f3⟩
theorem OwnLk.form {w : World} {B : Nat} {v : Value} {zs : List LkI} (h : OwnLk w B v zs) : (v = .slice none 0 0 ∧ zs = []) ∨ ∃ g cap, v = .slice (some ⟨g, 0, none⟩) zs.length cap ∧ B ≤ g ∧ g < w.heap.size ∧ zs.length ≤ cap ∧ cap ≤ maxLen := by
 have h0 : w.ownsRow B 98 4 v zs.length (flatLk zs) := h
 rcases h0.2 with ⟨h', h''⟩ | ⟨g, cap', cur, h', hb, hg, hc, hm, _⟩
 ·exact .inl ⟨h', List.length_eq_zero_iff.1 h''⟩
 ·exact .inr ⟨g, cap', h', hb, (Array.getElem?_eq_some_iff.1 hg).1, hc, hm⟩
theorem OwnLk.slice {w : World} {B : Nat} {v : Value} {zs : List LkI} (h : OwnLk w B v zs) : ∃ a cap, v = .slice a zs.length cap := by
 rcases h.form with ⟨rfl, rfl⟩ | ⟨g, cap, rfl, _⟩
 ·exact ⟨none, 0, rfl⟩
 ·exact ⟨_, _, rfl⟩
theorem OwnLk.alloc {w : World} {B : Nat} {v : Value} {zs : List LkI} (h : OwnLk w B v zs) (o : Obj) : OwnLk (w.alloc o) B v zs := World.ownsRow.alloc h o
theorem LkRoom.below {w w' : World} {g n : Nat} (h : LkRoom w g n) (hg : g < w.heap.size) (hb : Below w.heap.size w w') : LkRoom w' g n :=
 ⟨fun j hj => by obtain ⟨v, e⟩ := h.1 j hj; exact ⟨v, (hb.cell (p := ⟨g, j, none⟩) hg).trans e⟩, fun j => (hb.frozen (p := ⟨g, j, none⟩) hg).trans (h.2 j)⟩
theorem LkRoom.grown {w w' : World} {g n : Nat} {row : Option Nat} (h : LkRoom w g n) (hg : g < w.heap.size) (hr : w.grownBy w' row) (hne : some g ≠ row) : LkRoom w' g n :=
 ⟨fun j hj => by obtain ⟨v, e⟩ := h.1 j hj; exact ⟨v, hr.cell e hne⟩, fun j => by
  have := h.2 j
  unfold World.frozen? at this ⊢
  simp only at this ⊢
  rw [hr.block g hg hne]
  exact this⟩
theorem ownLk_row {W : World} {B : Nat} {a : Option Addr} {n cap : Nat} {ys : List LkI} (h : OwnLk W B (.slice a n cap) ys) : ∀ q, (Value.slice a n cap).ownBlock = some q → B ≤ q ∧ q < W.heap.size := by
 have h0 : W.ownsRow B 98 4 (.slice a n cap) ys.length (flatLk ys) := h
 exact fun q e => h0.lt q e
theorem ownLk_kept {W W' : World} {B q : Nat} {a : Option Addr} {n cap : Nat} {ys : List LkI} (h : OwnLk W B (.slice a n cap) ys) (hg : W.grownBy W' (some q)) (hq : q < B) : OwnLk W' B (.slice a n cap) ys := by
 refine World.ownsRow.kept h hg ?_
 rcases a with _ | ⟨g, o, sp⟩
 ·rcases h.form with ⟨h1, _⟩ | ⟨g', cap', h1, h2, _⟩
  ·simp at h1; obtain ⟨rfl, rfl⟩ := h1; exact .inl rfl
  ·simp at h1
 ·rcases h.form with ⟨h1, _⟩ | ⟨g', cap', h1, h2, _⟩
  ·simp at h1
  ·simp at h1
   obtain ⟨⟨rfl, rfl, rfl⟩, _⟩ := h1
   exact .inr (by simp [Value.ownBlock]; omega)

theorem hasForm_c (s p : Int) (h0 : 0 ≤ s) (h1 : s ≤ 15) (p0 : 1 ≤ p) (p1 : p ≤ 4) (w : World) :
  Calls Tryz.prog 161 #[.int .i64 s, .int .i64 p] w fun e w' => e = .returned (.bool (hasI s p)) ∧ w = w' := by
 have hp : p = 1 ∨ p = 2 ∨ p = 3 ∨ p = 4 := by omega
 rcases hp with rfl | rfl | rfl | rfl
 ·have e1 := and_i64 s 1 h0 (by omega) (by omega) (by omega)
  simp at e1
  go_enter Tryz.func161, Tryz.ntmps161
  go_wp2
  go_ret
  exact ⟨rfl, rfl⟩
 ·have e1 := and_i64 s 2 h0 (by omega) (by omega) (by omega)
  simp at e1
  go_enter Tryz.func161, Tryz.ntmps161
  go_wp2
  go_ret
  exact ⟨rfl, rfl⟩
 ·have e1 := and_i64 s 3 h0 (by omega) (by omega) (by omega)
  simp at e1
  go_enter Tryz.func161, Tryz.ntmps161
  go_wp2
  go_ret
  exact ⟨rfl, rfl⟩
 ·have e1 := and_i64 s 4 h0 (by omega) (by omega) (by omega)
  simp at e1
  go_enter Tryz.func161, Tryz.ntmps161
  go_wp2
  go_ret
  exact ⟨rfl, rfl⟩
theorem in_dec : ∀ n : Fin 16, ∀ k : Fin 4, (bits .and .i64 (((n.val : Nat) : Int) / ((2 ^ k.val : Nat) : Int)) 1 == 1) = n.val.testBit k.val := by
 decide +kernel
theorem in_i64 (s p : Int) (h0 : 0 ≤ s) (h1 : s ≤ 15) (p0 : 1 ≤ p) (p1 : p ≤ 4) : (bits .and .i64 (s / ((2 ^ (p - 1).toNat : Nat) : Int)) 1 == 1) = hasI s p := by
 obtain ⟨n, rfl⟩ := Int.eq_ofNat_of_zero_le h0
 have := in_dec ⟨n, by omega⟩ ⟨(p - 1).toNat, by omega⟩
 simpa [hasI] using this
theorem l5In_c (s p : Int) (h0 : 0 ≤ s) (h1 : s ≤ 15) (p0 : 1 ≤ p) (p1 : p ≤ 4) (w : World) :
  Calls Tryz.prog 129 #[.int .i64 s, .int .i64 p] w fun e w' => e = .returned (.bool (hasI s p)) ∧ w = w' := by
 have hp : p = 1 ∨ p = 2 ∨ p = 3 ∨ p = 4 := by omega
 rcases hp with rfl | rfl | rfl | rfl
 ·have e1 : Hid ((bits .and .i64 s 1 == 1) = hasI s 1) := by have := in_i64 s 1 h0 h1 (by omega) (by omega); simp at this; exact this
  go_enter Tryz.func129, Tryz.ntmps129
  go_wp2
  go_ret
  exact ⟨by rw [← e1.out]; rfl, rfl⟩
 ·have e1 : Hid ((bits .and .i64 (s / 2) 1 == 1) = hasI s 2) := by have := in_i64 s 2 h0 h1 (by omega) (by omega); simp at this; exact this
  go_enter Tryz.func129, Tryz.ntmps129
  go_wp2
  go_ret
  exact ⟨by rw [← e1.out]; rfl, rfl⟩
 ·have e1 : Hid ((bits .and .i64 (s / 4) 1 == 1) = hasI s 3) := by have := in_i64 s 3 h0 h1 (by omega) (by omega); simp at this; exact this
  go_enter Tryz.func129, Tryz.ntmps129
  go_wp2
  go_ret
  exact ⟨by rw [← e1.out]; rfl, rfl⟩
 ·have e1 : Hid ((bits .and .i64 (s / 8) 1 == 1) = hasI s 4) := by have := in_i64 s 4 h0 h1 (by omega) (by omega); simp at this; exact this
  go_enter Tryz.func129, Tryz.ntmps129
  go_wp2
  go_ret
  exact ⟨by rw [← e1.out]; rfl, rfl⟩
def bothB (zs : List Int) (a b : Int) : Bool := zs.any (fun c => hasI c a && hasI c b)
def clashB (zs : List Int) (a b : Int) : Bool := (a != b) && bothB zs a b
def clashV (zs : List Int) (a b : Int) : Bool := (clCode zs == 0) && (inR a 1 4 && (inR b 1 4 && clashB zs a b))
theorem cl_at {zs : List Int} {k : Nat} {x : Int} (h : ∀ x ∈ zs, inR x 0 15 = true) (hx : zs[k]? = some x) : 0 ≤ x ∧ x ≤ 15 := (inR_iff _ _ _).1 (h x (List.mem_of_getElem? hx))

def needAt (e f : Int) (k : Nat) (ps : List Int) : List LkI := ps.map (fun p => (⟨e, (k : Int), p, f⟩ : LkI))
def needOne (zs : List Int) (e f s : Int) (k : Nat) : List LkI := if hasI (zs[k]?.getD 0) f = true then needAt e f k (listTo s 8) else []
def needTo (zs : List Int) (e f s : Int) : Nat → List LkI
 | 0 => []
 | k + 1 => needTo zs e f s k ++ needOne zs e f s k
theorem needOne_len (zs : List Int) (e f s : Int) (k : Nat) : (needOne zs e f s k).length ≤ 8 := by
 unfold needOne
 split
 ·simpa [needAt] using listTo_le s 8
 ·simp
theorem needTo_len (zs : List Int) (e f s : Int) : ∀ k, (needTo zs e f s k).length ≤ k * 8
 | 0 => by simp [needTo]
 | k + 1 => by
  have h1 := needTo_len zs e f s k
  have h2 := needOne_len zs e f s k
  simp only [needTo, List.length_append]
  omega
def needCode (zs : List Int) (e f s : Int) : Int := if clCode zs = 0 then (if (inR e 1 9 && (inR f 1 4 && inR s 0 255)) = true then 0 else 3) else clCode zs
theorem need_ok {zs : List Int} {e f s : Int} (h : needCode zs e f s = 0) : clCode zs = 0 ∧ inR e 1 9 = true ∧ inR f 1 4 = true ∧ inR s 0 255 = true := by
 unfold needCode at h
 split at h
 ·rename_i q
  split at h
  ·rename_i q2
   simp only [Bool.and_eq_true] at q2
   exact ⟨q, q2.1, q2.2.1, q2.2.2⟩
  ·cases h
 ·exact absurd h (by assumption)
theorem need_of {zs : List Int} {e f s : Int} (h0 : clCode zs = 0) (h1 : inR e 1 9 = true) (h2 : inR f 1 4 = true) (h3 : inR s 0 255 = true) : needCode zs e f s = 0 := by
 simp [needCode, h0, h1, h2, h3]
theorem cell_new4 (W : World) (b : Nat) (hb : b = W.heap.size) (u0 u1 u2 u3 : Value) (T : TypeId) : ∀ j u, [u0, u1, u2, u3][j]? = some u → (W.alloc (.cells #[u0, u1, u2, u3] T)).cell? ((⟨b, 0, none⟩ : Addr).add j) = some u := by
 subst hb
 intro j u hj
 match j, hj with
 | 0, hj => simp at hj; subst hj; simp [Addr.add]
 | 1, hj => simp at hj; subst hj; simp [Addr.add]
 | 2, hj => simp at hj; subst hj; simp [Addr.add]
 | 3, hj => simp at hj; subst hj; simp [Addr.add]
theorem lk_apart {w : World} {B B' gl m cl : Nat} {v : Value} {gs : List LkI} {xs : List Value} (h : OwnLk w B v gs) (k : w.ownsRow B' 2 1 (.slice (some ⟨gl, 0, none⟩) m cl) m xs) : v.ownBlock ≠ some gl := by
 intro e
 have h0 : w.ownsRow B 98 4 v gs.length (flatLk gs) := h
 rcases h0.2 with ⟨h', _⟩ | ⟨g, cap, cur, h', _, hg, _⟩
 ·rw [h'] at e; cases e
 ·rw [h'] at e
  simp [Value.ownBlock] at e
  subst e
  rcases k.2 with ⟨k', _⟩ | ⟨g', cap', cur', k', _, kg, _⟩
  ·cases k'
  ·simp at k'
   obtain ⟨rfl, _⟩ := k'
   rw [hg] at kg
   simp at kg
theorem ints_row {w : World} {B gl n c : Nat} {L : List Int} (h : w.ownsRow B 2 1 (.slice (some ⟨gl, 0, none⟩) n c) n (L.map (Value.int .i64))) {k : Nat} {x : Int} (hx : L[k]? = some x) (hk : k < n) : w.cell? ⟨gl, k, none⟩ = some (.int .i64 x) := by
 rw [h.cellAt k (by omega)]
 simp [hx]
theorem needAt_next {L : List Int} {e f p : Int} {k m : Nat} (h : L[m]? = some p) : needAt e f k (L.take (m + 1)) = needAt e f k (L.take m) ++ [⟨e, (k : Int), p, f⟩] := by
 have hm : m < L.length := by
  by_cases q : m < L.length
  ·exact q
  ·rw [List.getElem?_eq_none (by omega)] at h; cases h
 have : L[m] = p := by rw [List.getElem?_eq_getElem hm] at h; exact Option.some.inj h
 rw [List.take_succ_eq_append_getElem hm, this]
 simp [needAt]
theorem l5Needs_c (a : Option Addr) (n cap : Nat) (zs : List Int) (e f s : Int) (w : World) (h : IntIn w a n zs) (hcl : ∀ x ∈ zs, inR x 0 15 = true) (hn : n ≤ 4) (f0 : 1 ≤ f) (f1 : f ≤ 4) (s0 : 0 ≤ s) (s1 : s ≤ 255) :
  Calls Tryz.prog 100 #[.slice a n cap, .int .i64 e, .int .i64 f, .int .i64 s] w fun r w' => ∃ g c, r = .returned (.slice (some ⟨g, 0, none⟩) (needTo zs e f s n).length c) ∧ OwnLk w' w.heap.size (.slice (some ⟨g, 0, none⟩) (needTo zs e f s n).length c) (needTo zs e f s n) ∧ Below w.heap.size w w' := by
 obtain ⟨i0, hi, hz0, hz1, hz2⟩ := info_parts Tryz.info98
 have hn' : (n : Int) ≤ 4 := by omega
 have HZ : Hid (zs.length = n) := h.1
 have HK : Hid (∀ x ∈ zs, inR x 0 15 = true) := hcl
 obtain ⟨w1, hw1⟩ : ∃ w1, w1 = w.alloc (.cells #[] 98) := ⟨_, rfl⟩
 have hb1 : Below w.heap.size w w1 := by rw [hw1]; exact zN
 have HO1 : Hid (OwnLk w1 w.heap.size (.slice (some ⟨w.heap.size, 0, none⟩) 0 0) []) := by rw [hw1]; exact World.ownsRow_lit w #[] 0 (Nat.le_refl _) (Nat.zero_le _) rfl
 have HI1 : Hid (IntIn w1 a n zs) := h.below hb1
 have HB1 : Hid (Below w.heap.size w w1) := hb1
 have HAL0 : Hid (∀ b off, a = some ⟨b, off, none⟩ → n = 0 ∨ b < w.heap.size) := int_lt h
 clear h hcl hb1
 go_enter Tryz.func100, Tryz.ntmps100
 go_wp2_with fail
 rw [← hw1]
 clear hw1
 refine (l1List_c s s0 s1 _).mono ?_
 rintro r w2 ⟨gl, cl, rfl, hown2, hb2⟩
 obtain ⟨L, hL⟩ : ∃ L, listTo s 8 = L := ⟨_, rfl⟩
 rw [hL] at hown2 ⊢
 have hL8 : L.length ≤ 8 := by rw [← hL]; exact listTo_le s 8
 have hL8' : (L.length : Int) ≤ 8 := by omega
 have HLL : Hid (listTo s 8 = L) := hL
 have HIL : Hid (w2.ownsRow w1.heap.size 2 1 (.slice (some ⟨gl, 0, none⟩) L.length cl) L.length (L.map (Value.int .i64))) := hown2
 have HAL : Hid (∀ b off, a = some ⟨b, off, none⟩ → n = 0 ∨ b < w.heap.size) := HAL0.out
 have HO2 : Hid (OwnLk w2 w.heap.size (.slice (some ⟨w.heap.size, 0, none⟩) 0 0) []) := HO1.out.below hb2
 have HI2 : Hid (IntIn w2 a n zs) := HI1.out.below hb2
 have HB2 : Hid (Below w.heap.size w w2) := HB1.out.trans (hb2.mono HB1.out.size)
 have hsz2 : w.heap.size ≤ w2.heap.size := HB2.out.size
 clear hown2 hb2 hL HO1 HI1 HB1
 go_wp2
 go_loopw [9, 11] (fun v i wr => ∃ k : Nat, k ≤ n ∧ i = .int .i64 (k : Int) ∧ OwnLk wr w.heap.size v (needTo zs e f s k) ∧ v ≠ .slice none 0 0 ∧ Below w.heap.size w wr ∧ IntIn wr a n zs ∧ wr.ownsRow w1.heap.size 2 1 (.slice (some ⟨gl, 0, none⟩) L.length cl) L.length (L.map (Value.int .i64))) (fun _ i _ => n - (intOf i).toNat)
 case atStart => exact ⟨0, Nat.zero_le _, rfl, HO2.out, by simp, HB2.out, HI2.out, HIL.out⟩
 case round =>
  obtain ⟨k, hk, rfl, hown, hnn, hnx, hia, hil⟩ := hrel
  have HO : Hid (OwnLk wr w.heap.size u9 (needTo zs e f s k)) := hown
  have HNN : Hid (u9 ≠ .slice none 0 0) := hnn
  have HNX : Hid (Below w.heap.size w wr) := hnx
  have HIA : Hid (IntIn wr a n zs) := hia
  have HIL2 : Hid (wr.ownsRow w1.heap.size 2 1 (.slice (some ⟨gl, 0, none⟩) L.length cl) L.length (L.map (Value.int .i64))) := hil
  clear hown hnn hnx hia hil
  by_cases hlt : k < n
  ·have hlt' : (k : Int) < (n : Int) := by omega
   obtain ⟨x, hx⟩ : ∃ x, zs[k]? = some x := ⟨_, List.getElem?_eq_getElem (by rw [HZ.out]; exact hlt)⟩
   obtain ⟨x0, x1⟩ := cl_at HK.out hx
   have HX : Hid (zs[k]? = some x) := hx
   obtain ⟨t, ht⟩ : ∃ t, hasI x f = t := ⟨_, rfl⟩
   have HT : Hid (hasI x f = t) := ht
   clear hx ht
   cases t
   ·have HN : Hid (needTo zs e f s (k + 1) = needTo zs e f s k) := by show needTo zs e f s (k + 1) = _; simp [needTo, needOne, HX.out, HT.out]
    go_wp2
    go_loopw [9, 12] (fun v j wq => v = u9 ∧ j = .int .i64 0 ∧ wq = wr) (fun _ _ _ => 0)
    case atStart => exact ⟨rfl, rfl, rfl⟩
    case round =>
     obtain ⟨rfl, rfl, rfl⟩ := hrel
     by_cases hl0 : 0 < L.length
     ·have hl0' : (0 : Int) < (L.length : Int) := by omega
      obtain ⟨b, off, y, e2, hy, c0, hbl⟩ := HIA.out.at hlt
      subst e2
      rw [HX.out] at hy
      cases hy
      go_wp2_with (go_at_call 129; refine (l5In_c _ _ (by omega) (by omega) (by omega) (by omega) _).mono ?_; rintro e w' ⟨rfl, rfl⟩; rw [HT.out])
      exact ⟨⟨k + 1, by omega, by go_num, by rw [HN.out]; exact HO.out, HNN.out, HNX.out, HIA.out, HIL2.out⟩, by simp [intOf]; omega⟩
     ·have hl0' : ¬ ((0 : Int) < (L.length : Int)) := by omega
      go_wp2
      exact ⟨⟨k + 1, by omega, by go_num, by rw [HN.out]; exact HO.out, HNN.out, HNX.out, HIA.out, HIL2.out⟩, by simp [intOf]; omega⟩
   ·have HN : Hid (needTo zs e f s (k + 1) = needTo zs e f s k ++ needAt e f k L) := by show needTo zs e f s (k + 1) = _; simp [needTo, needOne, HX.out, HT.out, HLL.out]
    go_wp2
    go_loopw [9, 12] (fun v j wq => ∃ m : Nat, m ≤ L.length ∧ j = .int .i64 (m : Int) ∧ OwnLk wq w.heap.size v (needTo zs e f s k ++ needAt e f k (L.take m)) ∧ v ≠ .slice none 0 0 ∧ Below w.heap.size w wq ∧ IntIn wq a n zs ∧ wq.ownsRow w1.heap.size 2 1 (.slice (some ⟨gl, 0, none⟩) L.length cl) L.length (L.map (Value.int .i64))) (fun _ j _ => L.length - (intOf j).toNat)
    case atStart => exact ⟨0, Nat.zero_le _, rfl, by simpa [needAt] using HO.out, HNN.out, HNX.out, HIA.out, HIL2.out⟩
    case round =>
     obtain ⟨m, hm, rfl, hown, hnn, hnx, hia, hil⟩ := hrel
     have HO3 : Hid (OwnLk wr w.heap.size u9 (needTo zs e f s k ++ needAt e f k (L.take m))) := hown
     have HNN3 : Hid (u9 ≠ .slice none 0 0) := hnn
     have HNX3 : Hid (Below w.heap.size w wr) := hnx
     have HIA3 : Hid (IntIn wr a n zs) := hia
     have HIL3 : Hid (wr.ownsRow w1.heap.size 2 1 (.slice (some ⟨gl, 0, none⟩) L.length cl) L.length (L.map (Value.int .i64))) := hil
     clear hown hnn hnx hia hil HO HNN HNX HIA HIL2
     by_cases hlm : m < L.length
     ·obtain ⟨b, off, y, e2, hy, c0, hbl⟩ := HIA3.out.at hlt
      rw [HX.out] at hy
      cases hy
      have hp : L[m]? = some L[m] := List.getElem?_eq_getElem hlm
      generalize L[m] = p at hp
      have c1 := ints_row HIL3.out hp hlm
      have hlm' : (m : Int) < (L.length : Int) := by omega
      have HP : Hid (needTo zs e f s k ++ needAt e f k (L.take (m + 1)) = (needTo zs e f s k ++ needAt e f k (L.take m)) ++ [⟨e, (k : Int), p, f⟩]) := by
       show needTo zs e f s k ++ needAt e f k (L.take (m + 1)) = _
       rw [needAt_next hp, List.append_assoc]
      have HLE : Hid ((needTo zs e f s k ++ needAt e f k (L.take m)).length ≤ 40) := by
       show (needTo zs e f s k ++ needAt e f k (L.take m)).length ≤ 40
       have := needTo_len zs e f s k
       simp [needAt]
       omega
      generalize needTo zs e f s k ++ needAt e f k (L.take m) = es at HO3 HP HLE
      have hsw := HNX3.out.size
      have HA : Hid (a = some ⟨b, off, none⟩) := e2
      subst e2
      clear hp
      go_wp2_with (first | (go_at_call 129; refine (l5In_c _ _ (by omega) (by omega) (by omega) (by omega) _).mono ?_; rintro e w' ⟨rfl, rfl⟩; rw [HT.out]) | (at_builtin; refine wpList_append_own _ rfl _ _ 31 rfl w.heap.size 98 i0 (.agg #[.int .i64 0, .int .i64 0, .int .i64 0, .int .i64 0]) 4 32 Tryz.under31 hi hz0 hz1 hz2 rfl (by decide) u9 (es.length) (flatLk es) rfl ?c0 ⟨_, 0, none⟩ 1 1 [.int .i64 e, .int .i64 (k : Int), .int .i64 p, .int .i64 f] rfl rfl ?c1 ?c2 ?c3 ?c4 ?c5 ?_))
      case c0 => exact HO3.out.below (zN)
      case c1 => exact cell_new4 _ _ (by first | rfl | simp) _ _ _ _ _
      case c2 => intro u hu; simp at hu; rcases hu with rfl | rfl | rfl | rfl <;> rfl
      case c3 => have := HLE.out; unfold maxLen; omega
      case c4 => have := HLE.out; omega
      case c5 => simp; omega
      ·intro v' w' hown' hgrow hnil
       have B0 : Below wr.heap.size wr (wr.alloc (.cells #[.int .i64 e, .int .i64 (k : Int), .int .i64 p, .int .i64 f] 98)) := zN
       have hlt9 : ∀ q, u9.ownBlock = some q → w.heap.size ≤ q := fun q e9 => by
        have h0 : wr.ownsRow w.heap.size 98 4 u9 es.length (flatLk es) := HO3.out
        exact (h0.lt q e9).1
       have R1 : Hid (OwnLk w' w.heap.size v' (es ++ [⟨e, (k : Int), p, f⟩])) := ownLk_push (x := ⟨e, (k : Int), p, f⟩) hown'
       have R2 : Hid (Below w.heap.size w w') := ownLk_grown (HO3.out.below B0) (HNX3.out.alloc hsw _) hgrow (by simp; omega)
       have R3 : Hid (IntIn w' (some ⟨b, off, none⟩) n zs) := intIn_kept (HIA3.out.below B0) hgrow HAL.out hlt9
       have R4 : Hid (w'.ownsRow w1.heap.size 2 1 (.slice (some ⟨gl, 0, none⟩) L.length cl) L.length (L.map (Value.int .i64))) := World.ownsRow.kept (HIL3.out.alloc _) hgrow (.inr (fun q => lk_apart HO3.out HIL3.out (by rw [← q]; rfl)))
       have hnn' : v' ≠ .slice none 0 0 := by first | exact hnil | simpa using hnil
       clear hown' hgrow hnil B0 hlt9
       go_wp2
       exact ⟨⟨m + 1, by omega, by go_num, by rw [HP.out]; exact R1.out, hnn', R2.out, R3.out, R4.out⟩, by simp [intOf]; omega⟩
     ·have hlm' : ¬ ((m : Int) < (L.length : Int)) := by omega
      have HE : Hid (needTo zs e f s (k + 1) = needTo zs e f s k ++ needAt e f k (L.take m)) := by show needTo zs e f s (k + 1) = _; rw [HN.out, List.take_of_length_le (by omega)]
      go_wp2
      exact ⟨⟨k + 1, by omega, by go_num, by rw [HE.out]; exact HO3.out, HNN3.out, HNX3.out, HIA3.out, HIL3.out⟩, by simp [intOf]; omega⟩
  ·have hkn : k = n := by omega
   subst hkn
   obtain ⟨g, c, e9⟩ := HO.out.shape HNN.out
   subst e9
   go_wp2
   go_ret
   exact ⟨g, c, rfl, HO.out, HNX.out⟩

section
open Go.RowKit Go.Sort Go.Proofs Go.Lib
def cmpI (x y : Int) : Int := if x < y then -1 else if y < x then 1 else 0
def orC (c d : Int) : Int := if c = 0 then d else c
def cfR (p q : RoI) : Int := orC (cmpI p.1 q.1) (cmpI p.2 q.2)
end

def setIn (s : Int) : Bool := decide (0 ≤ s) && decide (s ≤ 255)

section
open Go.RowKit Go.Sort
theorem setFault_c (s : Int) (w : World) : Calls Tryz.prog 133 #[.int .i64 s] w fun e w' => e = .returned (.int .i64 (if setIn s = true then 0 else 3)) ∧ w = w' := by
 by_cases h0 : 0 ≤ s
 ·by_cases h1 : s ≤ 255
  ·have h2 : s < (256 : Int) := by omega
   rw [show (if setIn s = true then (0 : Int) else 3) = 0 by simp [setIn, h0, h1]]
   go_enter Tryz.func133, Tryz.ntmps133
   go_wp2
   go_ret
   exact ⟨rfl, rfl⟩
  ·have h2 : (256 : Int) ≤ s := by omega
   rw [show (if setIn s = true then (0 : Int) else 3) = 3 by simp [setIn, h1]]
   go_enter Tryz.func133, Tryz.ntmps133
   go_wp2
   go_ret
   exact ⟨rfl, rfl⟩
 ·have h2 : s < (0 : Int) := by omega
  rw [show (if setIn s = true then (0 : Int) else 3) = 3 by simp [setIn, h0]]
  go_enter Tryz.func133, Tryz.ntmps133
  go_wp2
  go_ret
  exact ⟨rfl, rfl⟩
end

theorem l1Set_c (s : Int) (w : World) : Calls Tryz.prog 124 #[.int .i64 s] w fun e w' => e = .returned (.bool (setIn s)) ∧ w = w' := by
 unfold setIn
 cases h0 : decide (0 ≤ s)
 ·go_enter Tryz.func124, Tryz.ntmps124
  go_wp2
  go_ret
  exact ⟨by simp, rfl⟩
 ·have h0' := of_decide_eq_true h0
  cases h1 : decide (s ≤ 255)
  all_goals
   go_enter Tryz.func124, Tryz.ntmps124
   go_wp2
   go_ret
   exact ⟨by simp, rfl⟩

structure Hold (lo hi : Nat) (P : World → Prop) (W : World) : Prop where
 out : P W
 le : hi ≤ W.heap.size
 kept : ∀ X X' : World, P X → (∀ b, lo ≤ b → b < hi → X'.heap[b]? = X.heap[b]?) → P X'
theorem Hold.below {lo hi : Nat} {P : World → Prop} {W W' : World} (h : Hold lo hi P W) (hb : Below W.heap.size W W') : Hold lo hi P W' :=
 ⟨h.kept _ _ h.out (fun b _ h2 => hb.block b (Nat.lt_of_lt_of_le h2 h.le)), Nat.le_trans h.le hb.size, h.kept⟩
def BoxV (b : Nat) (vs : List Value) (X : World) : Prop := ∀ j v, vs[j]? = some v → X.cell? ⟨b, j, none⟩ = some v
theorem BoxV.hold {b : Nat} {vs : List Value} {W : World} (h : BoxV b vs W) (hb : b < W.heap.size) : Hold b (b + 1) (BoxV b vs) W :=
 ⟨h, hb, fun X X' hX hk j v e => (World.cell?_of_block (w := X) (w' := X') (a := ⟨b, j, none⟩) (hk b (Nat.le_refl _) (by omega))).trans (hX j v e)⟩
theorem boxV_new (W : World) (cs : Array Value) (t : TypeId) : Hold W.heap.size (W.heap.size + 1) (BoxV W.heap.size cs.toList) (W.alloc (.cells cs t)) := by
 refine BoxV.hold (fun j v e => ?_) (by simp)
 have h : (W.alloc (.cells cs t)).heap[W.heap.size]? = some (.cells cs t) := by show (W.heap.push _)[W.heap.size]? = _; simp
 unfold World.cell?
 simp only
 rw [h]
 simpa using e
def BoxW (b : Nat) (vs : List Value) (X : World) : Prop := BoxV b vs X ∧ (∀ j, X.frozen? ⟨b, j, none⟩ = false)
theorem BoxW.hold {b : Nat} {vs : List Value} {W : World} (h : BoxW b vs W) (hb : b < W.heap.size) : Hold b (b + 1) (BoxW b vs) W :=
 ⟨h, hb, fun X X' hX hk => ⟨(BoxV.hold h.1 hb).kept X X' hX.1 hk, fun j => (World.frozen?_of_block (w := X) (w' := X') (a := ⟨b, j, none⟩) (hk b (Nat.le_refl _) (by omega))).trans (hX.2 j)⟩⟩
theorem BoxW.below {b : Nat} {vs : List Value} {W W' : World} (h : BoxW b vs W) (hb : b < W.heap.size) (hw : Below W.heap.size W W') : BoxW b vs W' := ((h.hold hb).below hw).out
theorem boxW_new (W : World) (cs : Array Value) (t : TypeId) : BoxW W.heap.size cs.toList (W.alloc (.cells cs t)) :=
 ⟨(boxV_new W cs t).out, fun j => by
  have h : (W.alloc (.cells cs t)).heap[W.heap.size]? = some (.cells cs t) := by show (W.heap.push _)[W.heap.size]? = _; simp
  unfold World.frozen?
  simp only
  rw [h]
  simp⟩
theorem BoxW.put {b : Nat} {vs : List Value} {X : World} (h : BoxW b vs X) (j : Nat) (hj : j < vs.length) (v : Value) : BoxW b (vs.set j v) (X.setCell ⟨b, j, none⟩ v) := by
 refine ⟨fun i u e => ?_, fun i => by rw [World.frozen?_setCell]; exact h.2 i⟩
 by_cases q : i = j
 ·subst q
  rw [List.getElem?_set_self hj] at e
  have hc := h.1 i _ (List.getElem?_eq_getElem hj)
  cases e
  simp [go_sem, hc]
 ·rw [List.getElem?_set_ne (Ne.symm q)] at e
  rw [World.cell?_setCell_other (h := fun e => q (by have := congrArg Addr.off e; simp at this; omega))]
  exact h.1 i u e
theorem BoxW.other {b : Nat} {vs : List Value} {X : World} (h : BoxW b vs X) {p : Addr} (hp : p.block ≠ b) (v : Value) : BoxW b vs (X.setCell p v) := by
 refine ⟨fun i u e => ?_, fun i => by rw [World.frozen?_setCell]; exact h.2 i⟩
 rw [World.cell?_setCell_other (h := fun e => hp (by rw [e]))]
 exact h.1 i u e
theorem owns_kept {X X' : World} {B : Nat} {t : TypeId} {sz : Nat} {v : Value} {n : Nat} {xs : List Value} (h : X.ownsRow B t sz v n xs) (hk : ∀ g, v.ownBlock = some g → X'.heap[g]? = X.heap[g]?) : X'.ownsRow B t sz v n xs := by
 refine ⟨h.1, ?_⟩
 rcases h.2 with q | ⟨g, cap, cur, e, hg, hb, rest⟩
 ·exact .inl q
 ·exact .inr ⟨g, cap, cur, e, hg, (hk g (by rw [e]; rfl)).trans hb, rest⟩

end Go.Proofs.YtpnpllpbbkibbaaGreatDoor
