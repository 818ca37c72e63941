/-
  FACTS: a box of two cells and an argument's rules, kept through calls and marks.
  Conditions: each fact bears its own.
  CONTRACTS: spec.ProofOf.
  Conditions: each contract bears its own.
  CONTRACTS: impl.proofOf, out of what maps.Equal answers.
  Conditions: each contract bears its own.
  CONTRACT: maps.Equal over two maps of grants.
  Conditions: each contract bears its own.
-/
import Derived.Test.YtnfolmjdicfobaaGreatDoorPl02
import Derived.Test.YtnfolmjdicfobaaGreatDoorPl05
import Derived.Test.YtnfolmjdicfobaaGreatDoorPl14
import Derived.Test.YtnfolmjdicfobaaGreatDoorPl21
import Derived.Test.YtnfolmjdicfobaaGreatDoorPl20
import Derived.Test.YtnfolmjdicfobaaGreatDoorPl08
import Derived.Test.YtnfolmjdicfobaaGreatDoorPl18
import Derived.Lib.SlMapEqual
import Derived.WalkKit
import Derived.Maps.RangeWalk
import Derived.Laws.IdiomRangeMap
namespace Go.Proofs.YtnfolmjdicfobaaGreatDoor
open Go.RowKit
set_option linter.unusedVariables false
set_option linter.unusedSimpArgs false

/-- Two cells of a block. -/
def Box2 (w : World) (B : Nat) (x y : Value) : Prop := w.cell? ⟨B, 0, none⟩ = some x ∧ w.cell? ⟨B, 1, none⟩ = some y
theorem Box2.lt {w : World} {B : Nat} {x y : Value} (h : Box2 w B x y) : B < w.heap.size := World.block_lt_of_cell? w ⟨B, 0, none⟩ h.1
theorem Box2.below {w w' : World} {B : Nat} {x y : Value} (h : Box2 w B x y) (hb : Below w.heap.size w w') : Box2 w' B x y :=
  ⟨(hb.cell (p := ⟨B, 0, none⟩) h.lt).trans h.1, (hb.cell (p := ⟨B, 1, none⟩) h.lt).trans h.2⟩
theorem Box2.grown {w w' : World} {B : Nat} {x y : Value} {row : Option Nat} (h : Box2 w B x y) (hg : w.grownBy w' row) (hne : some B ≠ row) : Box2 w' B x y :=
  ⟨hg.cell h.1 hne, hg.cell h.2 hne⟩
theorem Box2.new (w : World) (x y : Value) (t : TypeId) : Box2 (w.alloc (.cells #[x, y] t)) w.heap.size x y := ⟨by simp, by simp⟩

theorem rulesIn_kept {w w' : World} {a : Option Addr} {n L : Nat} {zs : List RuleI} {row : Option Nat} (h : RulesIn w a n zs) (hg : w.grownBy w' row) (hL : ∀ b off, a = some ⟨b, off, none⟩ → n = 0 ∨ b < L) (hne : ∀ q, row = some q → L ≤ q) : RulesIn w' a n zs := by
  refine ⟨h.1, fun hp => ?_⟩
  obtain ⟨b, off, e, hr⟩ := h.2 hp
  have hb : b < L := by
    rcases hL b off e with h0 | h0
    · omega
    · exact h0
  refine ⟨b, off, e, fun k r hk => ?_⟩
  have hx : ∀ (o : Nat) (u : Value), w.cell? ⟨b, o, none⟩ = some u → w'.cell? ⟨b, o, none⟩ = some u := fun o u hu => hg.cell hu (fun q => by have := hne b q.symm; omega)
  obtain ⟨h0, h1, h2, h3, h4, h5, h6, h7⟩ := hr k r hk
  exact ⟨hx _ _ h0, hx _ _ h1, hx _ _ h2, hx _ _ h3, hx _ _ h4, hx _ _ h5, hx _ _ h6, hx _ _ h7⟩

theorem rules_lt {w : World} {a : Option Addr} {n : Nat} {zs : List RuleI} (h : RulesIn w a n zs) : ∀ b off, a = some ⟨b, off, none⟩ → n = 0 ∨ b < w.heap.size := by
  intro b off e
  by_cases h0 : n = 0
  · exact .inl h0
  · obtain ⟨b', off', r, e', _, hr⟩ := h.at (show 0 < n by omega)
    rw [e] at e'
    cases e'
    exact .inr (World.block_lt_of_cell? w _ hr.1)

theorem roomAt_below {w w' : World} {g n : Nat} (h : RoomAt w g n) (hg : g < w.heap.size) (hb : Below w.heap.size w w') : RoomAt w' g n :=
  ⟨fun j hj => by obtain ⟨v, e⟩ := h.1 j hj; exact ⟨v, (hb.cell (p := ⟨g, j, none⟩) hg).trans e⟩, fun j => (hb.frozen (p := ⟨g, j, none⟩) hg).trans (h.2 j)⟩

/-- A row of grants lies between two sizes. -/
theorem row3_lt {w : World} {B : Nat} {a : Option Addr} {cap : Nat} {ys : List GrI} (h : Own3 w B (.slice a ys.length cap) ys) : ∀ g, a = some ⟨g, 0, none⟩ → B ≤ g ∧ g < w.heap.size := by
  intro g e
  subst e
  have h0 : w.ownsRow B 196 3 (.slice (some ⟨g, 0, none⟩) ys.length cap) ys.length (flat3 ys) := h
  exact h0.lt g rfl

end Go.Proofs.YtnfolmjdicfobaaGreatDoor

namespace Go.Proofs.YtnfolmjdicfobaaGreatDoor
open Go.RowKit
set_option linter.unusedVariables false
set_option linter.unusedSimpArgs false

theorem hitAt_neg (f : RoI → Int) (r : RoI) (p : Int) : ∀ (zs : List RuleI) (i : Int), 0 ≤ i → (hitAt f r p zs i < 0 ↔ noneHit zs f r p)
  | [], i, _ => by
    constructor
    · intro _ z h; simp at h
    · intro _; show (-1 : Int) < 0; decide
  | z :: zs, i, h => by
    have ih := hitAt_neg f r p zs (i + 1) (by omega)
    show (if hitB f r p z = true then i else hitAt f r p zs (i + 1)) < 0 ↔ _
    cases e : hitB f r p z
    · rw [if_neg (by simp), ih]
      constructor
      · intro q y hy
        rcases List.mem_cons.1 hy with rfl | hy
        · exact e
        · exact q y hy
      · intro q y hy
        exact q y (by simp [hy])
    · rw [if_pos rfl]
      constructor
      · intro q; omega
      · intro q; have := q z (by simp); rw [e] at this; cases this

theorem it_const {zs : List RuleI} {M : Nat} (h : stepG zs (itG zs M) = itG zs M) : ∀ j, itG zs (M + j) = itG zs M
  | 0 => rfl
  | j + 1 => by
    show stepG zs (itG zs (M + j)) = _
    rw [it_const h j, h]

/-- The first step at which a grant follows, and it is among few. -/
theorem first_few {zs : List RuleI} (hz : ∀ z ∈ zs, okR z) {r : RoI} {p : Int} (h : Has zs r p) : ∃ n, n ≤ 10200 ∧ ¬ noneHit zs (ofG (itG zs n)) r p ∧ ∀ k, k < n → noneHit zs (ofG (itG zs k)) r p := by
  obtain ⟨n, h1, h2⟩ := first_of hz h
  refine ⟨n, ?_, h1, h2⟩
  obtain ⟨M, hM, hs⟩ := it_ends hz
  by_cases q : n ≤ M
  · omega
  · have e : itG zs n = itG zs M := by
      have := it_const hs (n - M)
      rwa [show M + (n - M) = n by omega] at this
    rw [e] at h1
    exact absurd (h2 M (by omega)) h1

def GivesP (f : Nat) (a : Option Addr) (n cap : Nat) (r : RoI) (p : Int) (c : Int) (ls : List Int) (w : World) : Prop := Calls Tryz.prog f #[.slice a n cap, .agg #[.int .i64 r.1, .int .i64 r.2], .int .i64 p] w fun e w' => ∃ (a' : Option Addr) (cap' : Nat), e = .returned (.agg #[.int .i64 c, .slice a' ls.length cap']) ∧ w'.ownsRow w.heap.size 2 1 (.slice a' ls.length cap') ls.length (ls.map (Value.int .i64)) ∧ Below w.heap.size w w'

end Go.Proofs.YtnfolmjdicfobaaGreatDoor

namespace Go.Proofs.YtnfolmjdicfobaaGreatDoor
open Go.RowKit
set_option linter.unusedVariables false
set_option linter.unusedSimpArgs false
attribute [local go_sem ↓] ro_eql

theorem hit_here {zs : List RuleI} {f : RoI → Int} {r : RoI} {p : Int} : ∀ (k : Nat) (z : RuleI), zs[k]? = some z → (∀ j y, j < k → zs[j]? = some y → hitB f r p y = false) → hitB f r p z = true → ∀ i : Int, hitAt f r p zs i = i + k := by
  induction zs with
  | nil => intro k z h; simp at h
  | cons y ys ih =>
    intro k z h hb ht i
    show (if hitB f r p y = true then i else hitAt f r p ys (i + 1)) = _
    cases k with
    | zero =>
      simp at h
      subst h
      rw [if_pos ht]; simp
    | succ k =>
      rw [if_neg (by rw [hb 0 y (by omega) (by simp)]; simp), ih k z (by simpa using h) (fun j x hj hx => hb (j + 1) x (by omega) (by simpa using hx)) ht]
      simp; omega

theorem none_all {zs : List RuleI} {f : RoI → Int} {r : RoI} {p : Int} {n : Nat} (hn : zs.length = n) (h : ∀ j y, j < n → zs[j]? = some y → hitB f r p y = false) : noneHit zs f r p := by
  intro z hz
  obtain ⟨j, hj⟩ := List.mem_iff_getElem?.1 hz
  have : j < n := by
    by_cases q : j < zs.length
    · omega
    · rw [List.getElem?_eq_none (by omega)] at hj; cases hj
  exact h j z this hj

end Go.Proofs.YtnfolmjdicfobaaGreatDoor

namespace Go.Proofs.YtnfolmjdicfobaaGreatDoor
open Go.RowKit Go.Maps
set_option linter.unusedVariables false
set_option linter.unusedSimpArgs false

/-- The entries of a map of grants: one for each role that somebody has. -/
theorem own_es {w : World} {b n : Nat} {D : DataW Unit} {f : RoI → Int} (hf : FN f) (ho : w.ownsMap Tryz.prog 79 elU b n D) (hv : View D f) : ∃ es : List (Lit × DataW Unit), D = .map es ∧ es.Pairwise (fun p q => p.1 ≠ q.1) ∧ (∀ p ∈ es, WideAt.IsKeyLit p.1) ∧ (∀ p ∈ es, ∃ r, f r ≠ 0 ∧ p = (keyL r, .lit (.int .u8 (f r)))) ∧ (∀ r, f r ≠ 0 → (keyL r, (.lit (.int .u8 (f r)) : DataW Unit)) ∈ es) := by
  obtain ⟨es', hD', hne, hks⟩ := ho.entries mp_keyed
  obtain ⟨es, clock, hb, F, hs, hD⟩ := ho
  have hkeys : ∀ p ∈ es', ∃ r, roW r ∧ p.1 = keyL r := by
    intro p hp
    have hp' : p ∈ es.toList.map (WideElems.rg Tryz.prog 79 elU) := by
      rw [hD] at hD'
      have := (DataW.map.inj hD').symm
      rw [this] at hp
      exact mem_sorted.1 hp
    obtain ⟨v, hvv⟩ := fit_keys F p hp'
    obtain ⟨r, hr, _, e⟩ := key_inv hvv
    exact ⟨r, hr, e⟩
  clear hb F hs hD
  have hval : ∀ p ∈ es', ∀ r, roW r → p.1 = keyL r → p.2 = .lit (.int .u8 (f r)) := by
    intro p hp r hr e
    have h1 := WideAt.atKey_mem (.lit (.int .u8 0)) (hks p hp) hne (show (p.1, p.2) ∈ es' from hp)
    have h2 := hv.at' r hr
    rw [hD', ← e] at h2
    rw [← h1]
    exact h2
  refine ⟨es', hD', hne, hks, fun p hp => ?_, fun r hr => ?_⟩
  · obtain ⟨r, hr, e⟩ := hkeys p hp
    refine ⟨r, ?_, Prod.ext e (hval p hp r hr e)⟩
    have h1 := hv.has r hr
    rw [hD', has_eq] at h1
    have : (es'.any fun p => p.1.sameKey (keyL r)) = true := List.any_eq_true.2 ⟨p, hp, by rw [e]; exact WideAt.sameKey_self (keyL_key r)⟩
    rw [this] at h1
    exact of_decide_eq_true h1.symm
  · have hw := roW_of (hf.ro r hr)
    have h1 := hv.has r hw
    rw [hD', has_eq, show decide (f r ≠ 0) = true from decide_eq_true hr] at h1
    obtain ⟨p, hp, hsk⟩ := List.any_eq_true.1 h1
    have e : p.1 = keyL r := WideAt.sameKey_eq hsk
    have := hval p hp r hw e
    rw [← e, ← this]
    exact hp

def eqd8 : DataW Unit → DataW Unit → Bool
  | .lit (.int .u8 a), .lit (.int .u8 b) => decide (a = b)
  | _, _ => false

theorem equal_iff {w w' : World} {b1 b2 n1 n2 : Nat} {D1 D2 : DataW Unit} {f1 f2 : RoI → Int} (hf1 : FN f1) (hf2 : FN f2) (h1 : w.ownsMap Tryz.prog 79 elU b1 n1 D1) (h2 : w'.ownsMap Tryz.prog 79 elU b2 n2 D2) (hv1 : View D1 f1) (hv2 : View D2 f2) : Lib.equalFuncD eqd8 D1 D2 = true ↔ f1 = f2 := by
  obtain ⟨es1, rfl, hap1, hk1, hm1, hc1⟩ := own_es hf1 h1 hv1
  obtain ⟨es2, rfl, hap2, hk2, hm2, hc2⟩ := own_es hf2 h2 hv2
  have hn1 : (es1.map Prod.fst).Nodup := List.pairwise_map.2 hap1
  have hn2 : (es2.map Prod.fst).Nodup := List.pairwise_map.2 hap2
  have good : ∀ r, f1 r ≠ 0 → (Lib.goodD eqd8 (.map es2) (keyL r, .lit (.int .u8 (f1 r))) = true ↔ f2 r = f1 r) := by
    intro r hr
    have hw := roW_of (hf1.ro r hr)
    unfold Lib.goodD
    rw [hv2.has r hw]
    by_cases e : f2 r = 0
    · rw [show decide (f2 r ≠ 0) = false by simp [e]]
      simp
      intro q; rw [q] at e; exact hr e
    · rw [show decide (f2 r ≠ 0) = true from decide_eq_true e]
      rw [atKey_indep (z := .nil) (z' := .lit (.int .u8 0)) (by rw [hv2.has r hw]; exact decide_eq_true e), hv2.at' r hw]
      simp [eqd8, eq_comm]
  unfold Lib.equalFuncD
  rw [Bool.and_eq_true, decide_eq_true_iff, size_eq, size_eq, List.all_eq_true]
  constructor
  · rintro ⟨hs, hall⟩
    have h12 : ∀ r, f1 r ≠ 0 → f2 r = f1 r := fun r hr => (good r hr).1 (hall _ (hc1 r hr))
    funext r
    by_cases h : f1 r = 0
    · by_cases e : f2 r = 0
      · rw [h, e]
      · exfalso
        have hnd : (keyL r :: es1.map Prod.fst).Nodup := by
          refine List.nodup_cons.2 ⟨fun q => ?_, hn1⟩
          obtain ⟨p, hp, ep⟩ := List.mem_map.1 q
          obtain ⟨r', hr', rfl⟩ := hm1 p hp
          have := keyL_inj (roW_of (hf1.ro r' hr')) (roW_of (hf2.ro r e)) ep
          rw [this] at hr'
          exact hr' h
        have := @nodup_len Lit (fun _ _ => Classical.propDecidable _) (keyL r :: es1.map Prod.fst) (es2.map Prod.fst) hnd (fun x hx => by
          rcases List.mem_cons.1 hx with rfl | hx
          · exact List.mem_map.2 ⟨_, hc2 r e, rfl⟩
          · obtain ⟨p, hp, rfl⟩ := List.mem_map.1 hx
            obtain ⟨r', hr', rfl⟩ := hm1 p hp
            exact List.mem_map.2 ⟨_, hc2 r' (by rw [h12 r' hr']; exact hr'), rfl⟩)
        simp at this
        omega
    · exact (h12 r h).symm
  · rintro rfl
    refine ⟨Nat.le_antisymm ?_ ?_, fun p hp => ?_⟩
    · have := @nodup_len Lit (fun _ _ => Classical.propDecidable _) (es1.map Prod.fst) (es2.map Prod.fst) hn1 (fun x hx => by
        obtain ⟨p, hp, rfl⟩ := List.mem_map.1 hx
        obtain ⟨r', hr', rfl⟩ := hm1 p hp
        exact List.mem_map.2 ⟨_, hc2 r' hr', rfl⟩)
      simpa using this
    · have := @nodup_len Lit (fun _ _ => Classical.propDecidable _) (es2.map Prod.fst) (es1.map Prod.fst) hn2 (fun x hx => by
        obtain ⟨p, hp, rfl⟩ := List.mem_map.1 hx
        obtain ⟨r', hr', rfl⟩ := hm2 p hp
        exact List.mem_map.2 ⟨_, hc1 r' hr', rfl⟩)
      simpa using this
    · obtain ⟨r, hr, rfl⟩ := hm1 p hp
      exact (good r hr).2 rfl

end Go.Proofs.YtnfolmjdicfobaaGreatDoor
