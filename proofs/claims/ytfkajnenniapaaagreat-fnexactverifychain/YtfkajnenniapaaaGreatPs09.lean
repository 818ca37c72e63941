/- Contracts. -/
import Derived.Test.YtfkajnenniapaaaGreatPs04
import Derived.Laws.AppendOwn
import Derived.Maps.Own
import Derived.Maps.OwnSet
import Derived.Maps.RangeWalk
namespace Go.Proofs.YtfkajnenniapaaaGreat
set_option maxRecDepth 100000
set_option maxHeartbeats 8000000
open Go.RowKit
set_option linter.unusedVariables false
set_option linter.unusedSimpArgs false

section
attribute [local go_sem ↓] rule_eql
theorem slIndex_c (a : Option Addr) (n cap : Nat) (zs : List RuleI) (r : RuleI) (w : World) (hn : n ≤ 1048576) (h : RulesIn w a n zs) :
  Calls Tryz.prog 158 #[.slice a n cap, .agg #[.int .i64 r.k, .int .i64 r.ho, .int .i64 r.hn, .int .i64 r.w, .int .i64 r.oo, .int .i64 r.on, .int .i64 r.to, .int .i64 r.tn]] w fun e w' => (∃ i : Int, e = .returned (.int .i64 i) ∧ ((0 ≤ i ∧ r ∈ zs) ∨ (i = -1 ∧ ¬ r ∈ zs))) ∧ Below w.heap.size w w' := by
 have H : Hid (RulesIn w a n zs) := h
 have hz : Hid (zs.length = n) := h.1
 clear h
 have hn' : (n : Int) ≤ 1048576 := by omega
 have HB : Hid (RuleAt (w.alloc (.cells #[.int .i64 r.k, .int .i64 r.ho, .int .i64 r.hn, .int .i64 r.w, .int .i64 r.oo, .int .i64 r.on, .int .i64 r.to, .int .i64 r.tn] 129)) w.heap.size 0 r) := RuleAt.new w r _
 go_enter Tryz.func158, Tryz.ntmps158
 go_wp2
 go_loopw [8] (fun i wr => ∃ k : Nat, k ≤ n ∧ i = .int .i64 (k : Int) ∧ ¬ r ∈ zs.take k ∧ ∃ m, wr = (w.alloc (.cells #[.int .i64 r.k, .int .i64 r.ho, .int .i64 r.hn, .int .i64 r.w, .int .i64 r.oo, .int .i64 r.on, .int .i64 r.to, .int .i64 r.tn] 129)).drewN m) (fun i _ => n - (intOf i).toNat)
 case atStart => exact ⟨0, Nat.zero_le _, rfl, by simp, 0, rfl⟩
 case round =>
  obtain ⟨k, hk, rfl, hm, m, rfl⟩ := hrel
  have HM : Hid (¬ r ∈ zs.take k) := hm
  clear hm
  by_cases hlt : k < n
  ·obtain ⟨b, off, s, rfl, hs, hr⟩ := H.out.at hlt
   have HS : Hid (zs[k]? = some s) := hs
   clear hs
   have hb : b < w.heap.size := zL w ⟨b, off + k * 8, none⟩ hr.1
   obtain ⟨h0, h1, h2, h3, h4, h5, h6, h7⟩ := hr
   obtain ⟨b0, b1, b2, b3, b4, b5, b6, b7⟩ := HB.out
   simp only [Nat.zero_add] at b0 b1 b2 b3 b4 b5 b6 b7
   have hlt' : (k : Int) < (n : Int) := by omega
   cases hsame : sameB r s
   ·have HF : Hid (sameB r s = false) := hsame
    have HN : Hid (¬ r ∈ zs.take (k + 1)) := by
     show ¬ r ∈ zs.take (k + 1)
     rw [mem_take_iff]
     rintro ⟨j, hj, hjs⟩
     by_cases e : j = k
     ·subst e
      rw [HS.out] at hjs
      simp [sameB] at hsame
      exact hsame (Option.some.inj hjs).symm
     ·exact HM.out ((mem_take_iff _ _ _).2 ⟨j, by omega, hjs⟩)
    clear hsame
    have hsame : sameB r s = false := HF.out
    go_wp2
    go_quiet (fail)
    go_wp2
    exact ⟨⟨k + 1, by omega, by go_num, HN.out, _, rfl⟩, by simp [intOf]; omega⟩
   ·have HI : Hid (r ∈ zs) := by
     show r ∈ zs
     simp [sameB] at hsame
     subst hsame
     exact List.mem_of_getElem? HS.out
    go_wp2
    go_quiet (fail)
    go_wp2
    go_ret
    exact ⟨⟨_, rfl, Or.inl ⟨by omega, HI.out⟩⟩, by first | exact bdN (zN) _ | exact bdN (bdN (zN) _) _⟩
  ·have hkn : k = n := by omega
   subst hkn
   have HN : Hid (¬ r ∈ zs) := by
    have := HM.out
    rw [List.take_of_length_le (by rw [hz.out]; exact Nat.le_refl _)] at this
    exact this
   go_wp2
   go_ret
   exact ⟨⟨_, rfl, Or.inr ⟨rfl, HN.out⟩⟩, bdN (by go_grown) _⟩
theorem slContains_c (a : Option Addr) (n cap : Nat) (zs : List RuleI) (r : RuleI) (w : World) (hn : n ≤ 1048576) (h : RulesIn w a n zs) :
  Calls Tryz.prog 148 #[.slice a n cap, .agg #[.int .i64 r.k, .int .i64 r.ho, .int .i64 r.hn, .int .i64 r.w, .int .i64 r.oo, .int .i64 r.on, .int .i64 r.to, .int .i64 r.tn]] w fun e w' => e = .returned (.bool (decide (r ∈ zs))) ∧ Below w.heap.size w w' := by
 have H : Hid (RulesIn (w.alloc (.cells #[.int .i64 r.k, .int .i64 r.ho, .int .i64 r.hn, .int .i64 r.w, .int .i64 r.oo, .int .i64 r.on, .int .i64 r.to, .int .i64 r.tn] 129)) a n zs) := h.below (zN)
 clear h
 have HB : Hid (RuleAt (w.alloc (.cells #[.int .i64 r.k, .int .i64 r.ho, .int .i64 r.hn, .int .i64 r.w, .int .i64 r.oo, .int .i64 r.on, .int .i64 r.to, .int .i64 r.tn] 129)) w.heap.size 0 r) := RuleAt.new w r _
 obtain ⟨b0, b1, b2, b3, b4, b5, b6, b7⟩ := HB.out
 simp only [Nat.zero_add] at b0 b1 b2 b3 b4 b5 b6 b7
 go_enter Tryz.func148, Tryz.ntmps148
 go_wp2_with fail
 refine (slIndex_c a n cap zs r _ hn H.out).mono ?_
 rintro e w1 ⟨⟨i, rfl, hi⟩, hb1⟩
 have HX : Hid (decide (0 ≤ i) = decide (r ∈ zs)) := by
  show decide (0 ≤ i) = decide (r ∈ zs)
  rcases hi with ⟨h1, h2⟩ | ⟨rfl, h2⟩
  ·simp [h1, h2]
  ·simp [h2]
 clear hi b0 b1 b2 b3 b4 b5 b6 b7
 go_wp2
 go_ret
 exact ⟨by rw [HX.out]; rfl, below_new hb1⟩
end

def Box2 (w : World) (B : Nat) (x y : Value) : Prop := w.cell? ⟨B, 0, none⟩ = some x ∧ w.cell? ⟨B, 1, none⟩ = some y
theorem Box2.lt {w : World} {B : Nat} {x y : Value} (h : Box2 w B x y) : B < w.heap.size := zL w ⟨B, 0, none⟩ h.1
theorem Box2.below {w w' : World} {B : Nat} {x y : Value} (h : Box2 w B x y) (hb : Below w.heap.size w w') : Box2 w' B x y :=
 ⟨(hb.cell (p := ⟨B, 0, none⟩) h.lt).trans h.1, (hb.cell (p := ⟨B, 1, none⟩) h.lt).trans h.2⟩
theorem Box2.grown {w w' : World} {B : Nat} {x y : Value} {row : Option Nat} (h : Box2 w B x y) (hg : w.grownBy w' row) (hne : some B ≠ row) : Box2 w' B x y :=
 ⟨hg.cell h.1 hne, hg.cell h.2 hne⟩
theorem Box2.new (w : World) (x y : Value) (t : TypeId) : Box2 (w.alloc (.cells #[x, y] t)) w.heap.size x y := ⟨by simp, by simp⟩

structure Hold (lo hi : Nat) (P : World → Prop) (W : World) : Prop where
 out : P W
 le : hi ≤ W.heap.size
 kept : ∀ X X' : World, P X → (∀ b, lo ≤ b → b < hi → X'.heap[b]? = X.heap[b]?) → P X'
theorem Hold.below {lo hi : Nat} {P : World → Prop} {W W' : World} (h : Hold lo hi P W) (hb : Below W.heap.size W W') : Hold lo hi P W' :=
 ⟨h.kept _ _ h.out (fun b _ h2 => hb.block b (Nat.lt_of_lt_of_le h2 h.le)), Nat.le_trans h.le hb.size, h.kept⟩
theorem Hold.alloc {lo hi : Nat} {P : World → Prop} {W : World} (h : Hold lo hi P W) (o : Obj) : Hold lo hi P (W.alloc o) := h.below (zN)
structure Chg (lo hi : Nat) (W W' : World) : Prop where
 below : ∀ B, B ≤ lo → B ≤ W.heap.size → Below B W W'
 size : W.heap.size ≤ W'.heap.size
 block : ∀ b, b < W.heap.size → (b < lo ∨ hi ≤ b) → W'.heap[b]? = W.heap[b]?
theorem Chg.grown {lo hi : Nat} {W W' : World} {row : Option Nat} (hg : W.grownBy W' row) (h : ∀ q, row = some q → lo ≤ q ∧ q < hi) : Chg lo hi W W' :=
 ⟨fun B h1 h2 => (Below.refl _ _).grown hg h2 (fun q e => Nat.le_trans h1 (h q e).1), hg.size, fun b h1 h2 => hg.block b h1 (fun e => by have := h b e.symm; omega)⟩
theorem Chg.calls {lo hi : Nat} {W W' : World} (hb : Below W.heap.size W W') : Chg lo hi W W' :=
 ⟨fun B h1 h2 => hb.mono h2, hb.size, fun b h1 h2 => hb.block b h1⟩
theorem Chg.trans {lo hi : Nat} {A B C : World} (h : Chg lo hi A B) (k : Chg lo hi B C) : Chg lo hi A C :=
 ⟨fun b h1 h2 => (h.below b h1 h2).trans (k.below b h1 (Nat.le_trans h2 h.size)), Nat.le_trans h.size k.size, fun b h1 h2 => (k.block b (Nat.lt_of_lt_of_le h1 h.size) h2).trans (h.block b h1 h2)⟩
theorem Hold.chg {lo hi l r : Nat} {P : World → Prop} {W W' : World} (h : Hold lo hi P W) (c : Chg l r W W') (d : hi ≤ l ∨ r ≤ lo) : Hold lo hi P W' :=
 ⟨h.kept _ _ h.out (fun b h1 h2 => c.block b (Nat.lt_of_lt_of_le h2 h.le) (by omega)), Nat.le_trans h.le c.size, h.kept⟩
theorem below_chg {B l r : Nat} {w W W' : World} (h : Below B w W) (c : Chg l r W W') (h1 : B ≤ l) (h2 : B ≤ W.heap.size) : Below B w W' := h.trans (c.below B h1 h2)
theorem kpE_new {W w : World} (h : (∀ b o, b < W.heap.size → w.cell? ⟨b, o, none⟩ = W.cell? ⟨b, o, none⟩) ∧ Below W.heap.size W w) (o : Obj) : (∀ b i, b < W.heap.size → (w.alloc o).cell? ⟨b, i, none⟩ = W.cell? ⟨b, i, none⟩) ∧ Below W.heap.size W (w.alloc o) :=
 ⟨fun b i hb => (((Below.refl w.heap.size w).alloc (Nat.le_refl _) o).cell (p := ⟨b, i, none⟩) (Nat.lt_of_lt_of_le hb h.2.size)).trans (h.1 b i hb), h.2.alloc h.2.size _⟩
theorem ownsE_set {w : World} {base : Nat} {e : TypeId} {size : Nat} {v : Value} {n : Nat} {xs : List Value} (h : w.ownsRow base e size v n xs) {a : Addr} (ha : a.block < base) (u : Value) : (w.setCell a u).ownsRow base e size v n xs := by
 refine ⟨h.1, ?_⟩
 rcases h.2 with q | ⟨g, cap, cur, e1, hg, hb, rest⟩
 ·exact .inl q
 ·exact .inr ⟨g, cap, cur, e1, hg, (Below.heap_setCell _ _ _ _ (by intro q; omega)).trans hb, rest⟩
def BoxV (b : Nat) (vs : List Value) (X : World) : Prop := ∀ j v, vs[j]? = some v → X.cell? ⟨b, j, none⟩ = some v
theorem BoxV.hold {b : Nat} {vs : List Value} {W : World} (h : BoxV b vs W) (hb : b < W.heap.size) : Hold b (b + 1) (BoxV b vs) W :=
 ⟨h, hb, fun X X' hX hk j v e => (World.cell?_of_block (w := X) (w' := X') (a := ⟨b, j, none⟩) (hk b (Nat.le_refl _) (by omega))).trans (hX j v e)⟩
theorem boxV_new (W : World) (cs : Array Value) (t : TypeId) : Hold W.heap.size (W.heap.size + 1) (BoxV W.heap.size cs.toList) (W.alloc (.cells cs t)) := by
 refine BoxV.hold (fun j v e => ?_) (by simp)
 have h : (W.alloc (.cells cs t)).heap[W.heap.size]? = some (.cells cs t) := by show (W.heap.push _)[W.heap.size]? = _; simp
 unfold World.cell?
 simp only
 rw [h]
 simpa using e
def BoxW (b : Nat) (vs : List Value) (X : World) : Prop := BoxV b vs X ∧ (∀ j, X.frozen? ⟨b, j, none⟩ = false)
theorem BoxW.hold {b : Nat} {vs : List Value} {W : World} (h : BoxW b vs W) (hb : b < W.heap.size) : Hold b (b + 1) (BoxW b vs) W :=
 ⟨h, hb, fun X X' hX hk => ⟨(BoxV.hold h.1 hb).kept X X' hX.1 hk, fun j => (World.frozen?_of_block (w := X) (w' := X') (a := ⟨b, j, none⟩) (hk b (Nat.le_refl _) (by omega))).trans (hX.2 j)⟩⟩
theorem BoxW.below {b : Nat} {vs : List Value} {W W' : World} (h : BoxW b vs W) (hb : b < W.heap.size) (hw : Below W.heap.size W W') : BoxW b vs W' := ((h.hold hb).below hw).out
theorem boxW_new (W : World) (cs : Array Value) (t : TypeId) : BoxW W.heap.size cs.toList (W.alloc (.cells cs t)) :=
 ⟨(boxV_new W cs t).out, fun j => by
  have h : (W.alloc (.cells cs t)).heap[W.heap.size]? = some (.cells cs t) := by show (W.heap.push _)[W.heap.size]? = _; simp
  unfold World.frozen?
  simp only
  rw [h]
  simp⟩
theorem BoxW.put {b : Nat} {vs : List Value} {X : World} (h : BoxW b vs X) (j : Nat) (hj : j < vs.length) (v : Value) : BoxW b (vs.set j v) (X.setCell ⟨b, j, none⟩ v) := by
 refine ⟨fun i u e => ?_, fun i => by rw [World.frozen?_setCell]; exact h.2 i⟩
 by_cases q : i = j
 ·subst q
  rw [List.getElem?_set_self hj] at e
  have hc := h.1 i _ (List.getElem?_eq_getElem hj)
  cases e
  simp [go_sem, hc]
 ·rw [List.getElem?_set_ne (Ne.symm q)] at e
  rw [World.cell?_setCell_other (h := fun e => q (by have := congrArg Addr.off e; simp at this; omega))]
  exact h.1 i u e
theorem BoxW.other {b : Nat} {vs : List Value} {X : World} (h : BoxW b vs X) {p : Addr} (hp : p.block ≠ b) (v : Value) : BoxW b vs (X.setCell p v) := by
 refine ⟨fun i u e => ?_, fun i => by rw [World.frozen?_setCell]; exact h.2 i⟩
 rw [World.cell?_setCell_other (h := fun e => hp (by rw [e]))]
 exact h.1 i u e
def IntCp (g n : Nat) (zs : List Int) (X : World) : Prop := (∀ k x, zs[k]? = some x → X.cell? ⟨g, k, none⟩ = some (.int .i64 x)) ∧ (∀ j, j < n → ∃ v, X.cell? ⟨g, j, none⟩ = some v) ∧ ∀ j, X.frozen? ⟨g, j, none⟩ = false
theorem IntCp.hold {g n : Nat} {zs : List Int} {W : World} (h : IntCp g n zs W) (hg : g < W.heap.size) : Hold g (g + 1) (IntCp g n zs) W :=
 ⟨h, hg, fun X X' hX hk => by
  have hb := hk g (Nat.le_refl _) (by omega)
  exact ⟨fun k x e => (World.cell?_of_block (a := ⟨g, k, none⟩) hb).trans (hX.1 k x e), fun j hj => by
   obtain ⟨v, e⟩ := hX.2.1 j hj
   exact ⟨v, (World.cell?_of_block (a := ⟨g, j, none⟩) hb).trans e⟩, fun j => (World.frozen?_of_block (a := ⟨g, j, none⟩) hb).trans (hX.2.2 j)⟩⟩
theorem owns_kept {X X' : World} {B : Nat} {t : TypeId} {sz : Nat} {v : Value} {n : Nat} {xs : List Value} (h : X.ownsRow B t sz v n xs) (hk : ∀ g, v.ownBlock = some g → X'.heap[g]? = X.heap[g]?) : X'.ownsRow B t sz v n xs := by
 refine ⟨h.1, ?_⟩
 rcases h.2 with q | ⟨g, cap, cur, e, hg, hb, rest⟩
 ·exact .inl q
 ·exact .inr ⟨g, cap, cur, e, hg, (hk g (by rw [e]; rfl)).trans hb, rest⟩
theorem owns_hold {W : World} {B : Nat} {t : TypeId} {sz : Nat} {v : Value} {n : Nat} {xs : List Value} (h : W.ownsRow B t sz v n xs) (hi : Nat) (h1 : ∀ g, v.ownBlock = some g → g < hi) (h2 : hi ≤ W.heap.size) : Hold B hi (fun X => X.ownsRow B t sz v n xs) W :=
 ⟨h, h2, fun X X' hX hk => owns_kept hX (fun g e => hk g (hX.lt g e).1 (h1 g e))⟩
theorem owns_hold0 {W : World} {B : Nat} {t : TypeId} {sz : Nat} {v : Value} {n : Nat} {xs : List Value} (h : W.ownsRow B t sz v n xs) : Hold B W.heap.size (fun X => X.ownsRow B t sz v n xs) W := owns_hold h _ (fun g e => (h.lt g e).2) (Nat.le_refl _)

section
open Go.RowKit Go.Maps
theorem sn_map : Tryz.prog.underlying 167 = some (.map 2 188) := by kernel_rfl
theorem sn_keyed : Keyed Tryz.prog 2 := int_keyed Tryz.underlying2
abbrev i64W (i : Int) : Prop := (Lit.int .i64 i).wf = true
theorem sn_key {i : Int} (h : i64W i) : keyOf Tryz.prog 2 (.int .i64 i) = some (.int .i64 i) := keyOf_int_mk Tryz.underlying2 h
theorem i64W_of {i : Int} (h0 : -100 ≤ i) (h1 : i ≤ 100) : i64W i := by
 simp [i64W, Lit.wf, IntKind.min, IntKind.max, IntKind.signed, IntKind.bits]; omega
noncomputable abbrev elS : Value → Option (DataW Unit × List MemPlace) := unitElem
def SM (w : World) (b N : Nat) (p : Int → Bool) : Prop := ∃ D n, n ≤ N ∧ w.ownsMap Tryz.prog 2 elS b n D ∧ ∀ i, i64W i → Maps.has D (.int .i64 i) = p i
theorem SM.lt {w : World} {b N : Nat} {p : Int → Bool} (h : SM w b N p) : b < w.heap.size := by
 obtain ⟨D, n, _, ho, _⟩ := h
 exact ho.lt
theorem sm_heap {w w' : World} {b N : Nat} {p : Int → Bool} (h : SM w b N p) (e : w'.heap[b]? = w.heap[b]?) : SM w' b N p := by
 obtain ⟨D, n, h1, ⟨es, clock, hb, F, hs, hD⟩, hv⟩ := h
 exact ⟨D, n, h1, ⟨es, clock, e.trans hb, F, hs, hD⟩, hv⟩
theorem SM.below {w w' : World} {b N k : Nat} {p : Int → Bool} (h : SM w b N p) (hk : b < k) (hb : Below k w w') : SM w' b N p := sm_heap h (hb.block b hk)
theorem sm_made (w : World) : SM (w.alloc (.map #[] 0)) w.heap.size 0 (fun _ => false) :=
 ⟨.map [], 0, Nat.le_refl _, World.ownsMap_made w _ _ _, fun i _ => rfl⟩
def putP (p : Int → Bool) (i : Int) : Int → Bool := fun j => decide (j = i) || p j
def delP (p : Int → Bool) (i : Int) : Int → Bool := fun j => !decide (j = i) && p j
theorem key_is (i : Int) : WideAt.IsKeyLit (.int .i64 i) := trivial
theorem lit_ne {i j : Int} (h : ¬ j = i) : (Lit.int .i64 j) ≠ (Lit.int .i64 i) := fun e => h (by injection e)
theorem sm_put {w : World} {b N : Nat} {p : Int → Bool} (h : SM w b N p) (hN : N < 1000000) {i : Int} (hi : i64W i) :
  ∃ w', (Instr.mapUpdate 167 (.map (some b)) (.int .i64 i) (.agg #[])).run Tryz.prog w = .ok () w' ∧ SM w' b (N + 1) (putP p i) ∧ w.grownBy w' (some b) := by
 obtain ⟨D, n, h1, ho, hv⟩ := h
 obtain ⟨w', hr, ho', ht⟩ := ho.store sn_keyed sn_map (by unfold maxLen; omega) (sn_key hi) (unitElem_mk (H := Unit))
 refine ⟨w', hr, ⟨_, n + 1, by omega, ho', fun j hj => ?_⟩, ht.grown⟩
 by_cases e : j = i
 ·subst e
  rw [has_put_same ho.isMap (key_is _)]; simp [putP]
 ·rw [has_put_other (lit_ne e), hv j hj]; simp [putP, e]
theorem sm_del {w : World} {b N : Nat} {p : Int → Bool} (h : SM w b N p) {i : Int} (hi : i64W i) (ty : TypeId) :
  ∃ w', (Builtin.delete_ #[167, 2] ty #[.map (some b), .int .i64 i]).run Tryz.prog w = .ok (.tuple #[]) w' ∧ SM w' b N (delP p i) ∧ w.grownBy w' (some b) := by
 obtain ⟨D, n, h1, ho, hv⟩ := h
 obtain ⟨w', hr, ho', ht⟩ := ho.drop sn_keyed sn_map (sn_key hi) ty
 refine ⟨w', hr, ⟨_, n, h1, ho', fun j hj => ?_⟩, ht.grown⟩
 by_cases e : j = i
 ·subst e
  rw [has_del_same]; simp [delP]
 ·rw [has_del_other (lit_ne e), hv j hj]; simp [delP, e]
theorem sm_len {w : World} {b N : Nat} {p : Int → Bool} (h : SM w b N p) (ty : TypeId) :
  ∃ m : Nat, (Builtin.len_ #[167] ty #[.map (some b)]).run Tryz.prog w = .ok (.int .i64 (m : Int)) w ∧ m ≤ N ∧ (m = 0 ↔ ∀ i, i64W i → p i = false) := by
 obtain ⟨D, n, h1, ho, hv⟩ := h
 refine ⟨Maps.size D, ho.len sn_map ty, Nat.le_trans ho.size_le h1, ?_⟩
 obtain ⟨es, hD, hne, hk⟩ := ho.entries sn_keyed
 constructor
 ·intro h0 i hi
  rw [← hv i hi, hD]
  rw [hD, size_eq] at h0
  rw [List.eq_nil_of_length_eq_zero h0]; rfl
 ·intro hp
  cases es with
  | nil => rw [hD]; rfl
  | cons e es =>
   exfalso
   obtain ⟨es0, clock, hb, F, hs, hDD⟩ := ho
   have hm : e ∈ es0.toList.map (WideElems.rg Tryz.prog 2 elS) := by
    rw [hD] at hDD
    have := (DataW.map.inj hDD)
    exact mem_sorted.1 (by rw [← this]; simp)
   obtain ⟨v, hvv⟩ := fit_keys F e hm
   obtain ⟨i, rfl, hw, hkl⟩ : ∃ i, v = .int .i64 i ∧ i64W i ∧ e.1 = .int .i64 i := by
    simp only [keyOf, Tryz.underlying2, mapKey] at hvv
    cases v <;> simp at hvv
    obtain ⟨⟨rfl, hw⟩, hh⟩ := hvv
    exact ⟨_, rfl, hw, hh.symm⟩
   have h2 := hp i hw
   rw [← hv i hw, hD, has_eq] at h2
   simp [hkl, WideAt.sameKey_self (key_is i)] at h2
theorem snPut_c (b N : Nat) (p : Int → Bool) (i : Int) (w : World) (h : SM w b N p) (hN : N < 1000000) (hi : i64W i) :
  Calls Tryz.prog 105 #[.map (some b), .int .i64 i] w fun e w' => e = .returned (.tuple #[]) ∧ SM w' b (N + 1) (putP p i) ∧ w.grownBy w' (some b) := by
 obtain ⟨w', hr, hs, hg⟩ := sm_put h hN hi
 go_enter Tryz.func105, Tryz.ntmps105
 go_wp2
 go_end0
 exact ⟨rfl, hs, hg⟩
end

end Go.Proofs.YtfkajnenniapaaaGreat
