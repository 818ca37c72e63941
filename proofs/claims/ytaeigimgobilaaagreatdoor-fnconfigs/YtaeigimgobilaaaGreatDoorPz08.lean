/-
  CONTRACTS: spec.l3Rule: the first rule that gives a role to a principal.
  Conditions: each contract bears its own.
  PLAIN WORDS on two cells of a block. No Go text is walked here.
  Conditions: each fact bears its own.
  FACTS: a box of two cells and an argument's rules, kept through calls and marks.
  Conditions: each fact bears its own.
  CONTRACTS: spec.ProofOf.
  Conditions: each contract bears its own.
  CONTRACTS: impl.proofOf, out of what maps.Equal answers.
  Conditions: each contract bears its own.
  CONTRACT: maps.Equal over two maps of grants.
  Conditions: each contract bears its own.
  CONTRACTS: Widens of both programs.
  Conditions: each contract bears its own.
  CONTRACTS of math/bits.OnesCount8, spec.SizeOf, impl.SizeOf and laws.eqIntResult (two that are alike).
  Conditions: each contract bears its own.
  CONTRACTS of laws.eqIntsResult (two that are alike), laws.markIntsResult and laws.heldIntsResult.
  Conditions: each contract bears its own.
  CONTRACT: spec.l4Sets.
  Conditions: each contract bears its own.
  PLAIN WORDS on the fault of grants. No Go text is walked here.
  Conditions: each fact bears its own.
  CONTRACT: impl.GrantFault.
  Conditions: each contract bears its own.
  CONTRACT: spec.l3Fault.
  Conditions: each contract bears its own.
  CONTRACTS: the codes of forms; Admits of both programs.
  Conditions: each contract bears its own.
-/
import Derived.Test.YtaeigimgobilaaaGreatDoorGr3
import Derived.Test.YtaeigimgobilaaaGreatDoorGr8
import Derived.Test.YtaeigimgobilaaaGreatDoorPz01
import Derived.BigQuiet
import Derived.Test.YtaeigimgobilaaaGreatDoorPlain
import Derived.WalkKit
import Derived.Below
import Derived.Test.YtaeigimgobilaaaGreatDoorPz06
import Derived.Test.YtaeigimgobilaaaGreatDoorPz02
import Derived.Lib.SlMapEqual
import Derived.Maps.RangeWalk
import Derived.Laws.IdiomRangeMap
import Derived.Deep.QuietTactic
import Derived.Test.YtaeigimgobilaaaGreatDoorSpec1
import Derived.Lib.BitFns
import Derived.Test.YtaeigimgobilaaaGreatDoorPz04
import Derived.Test.YtaeigimgobilaaaGreatDoorPz05
import Derived.Test.YtaeigimgobilaaaGreatDoorBits1
import Derived.Test.YtaeigimgobilaaaGreatDoorGr2
import Derived.Test.YtaeigimgobilaaaGreatDoorRole1
import Derived.Test.YtaeigimgobilaaaGreatDoorPz03
import Derived.WalkSmall
import Derived.Deep.RegionHeld3
import Derived.Test.YtaeigimgobilaaaGreatDoorPz07

namespace Go.Proofs.YtaeigimgobilaaaGreatDoor
open Go.RowKit
set_option linter.unusedVariables false
set_option linter.unusedSimpArgs false
attribute [local go_sem ↓] ro_eql

/-- The first rule of a list that gives the role, from a place on; -1: none. -/
def hitAt (f : RoI → Int) (r : RoI) (p : Int) : List RuleI → Int → Int
  | [], _ => -1
  | z :: zs, i => if hitB f r p z = true then i else hitAt f r p zs (i + 1)

theorem hitAt_drop {zs : List RuleI} {k : Nat} {z : RuleI} (h : zs[k]? = some z) (f : RoI → Int) (r : RoI) (p i : Int) : hitAt f r p (zs.drop k) i = if hitB f r p z = true then i else hitAt f r p (zs.drop (k + 1)) (i + 1) := by
  have hk : k < zs.length := by
    by_cases q : k < zs.length
    · exact q
    · rw [List.getElem?_eq_none (by omega)] at h; cases h
  have e : zs[k] = z := by rw [List.getElem?_eq_getElem hk] at h; exact Option.some.inj h
  rw [List.drop_eq_getElem_cons hk, e]
  rfl

theorem hitB_eq (f : RoI → Int) (r : RoI) (p : Int) (z : RuleI) : hitB f r p z = (eqRo (z.ho, z.hn) r && hasI (byF f z) p) := by
  unfold hitB
  congr 1
  rw [Bool.eq_iff_iff, eqRo_iff, decide_eq_true_iff]

end Go.Proofs.YtaeigimgobilaaaGreatDoor

namespace Go.Proofs.YtaeigimgobilaaaGreatDoor
open Go.RowKit

/-- Two cells of a block. -/
def Box2 (w : World) (B : Nat) (x y : Value) : Prop := w.cell? ⟨B, 0, none⟩ = some x ∧ w.cell? ⟨B, 1, none⟩ = some y
theorem Box2.lt {w : World} {B : Nat} {x y : Value} (h : Box2 w B x y) : B < w.heap.size := World.block_lt_of_cell? w ⟨B, 0, none⟩ h.1
theorem Box2.below {w w' : World} {B : Nat} {x y : Value} (h : Box2 w B x y) (hb : Below w.heap.size w w') : Box2 w' B x y :=
  ⟨(hb.cell (p := ⟨B, 0, none⟩) h.lt).trans h.1, (hb.cell (p := ⟨B, 1, none⟩) h.lt).trans h.2⟩
theorem Box2.grown {w w' : World} {B : Nat} {x y : Value} {row : Option Nat} (h : Box2 w B x y) (hg : w.grownBy w' row) (hne : some B ≠ row) : Box2 w' B x y :=
  ⟨hg.cell h.1 hne, hg.cell h.2 hne⟩
theorem Box2.new (w : World) (x y : Value) (t : TypeId) : Box2 (w.alloc (.cells #[x, y] t)) w.heap.size x y := ⟨by simp, by simp⟩

end Go.Proofs.YtaeigimgobilaaaGreatDoor

namespace Go.Proofs.YtaeigimgobilaaaGreatDoor
open Go.RowKit
set_option linter.unusedVariables false
set_option linter.unusedSimpArgs false

theorem rulesIn_kept {w w' : World} {a : Option Addr} {n L : Nat} {zs : List RuleI} {row : Option Nat} (h : RulesIn w a n zs) (hg : w.grownBy w' row) (hL : ∀ b off, a = some ⟨b, off, none⟩ → n = 0 ∨ b < L) (hne : ∀ q, row = some q → L ≤ q) : RulesIn w' a n zs := by
  refine ⟨h.1, fun hp => ?_⟩
  obtain ⟨b, off, e, hr⟩ := h.2 hp
  have hb : b < L := by
    rcases hL b off e with h0 | h0
    · omega
    · exact h0
  refine ⟨b, off, e, fun k r hk => ?_⟩
  have hx : ∀ (o : Nat) (u : Value), w.cell? ⟨b, o, none⟩ = some u → w'.cell? ⟨b, o, none⟩ = some u := fun o u hu => hg.cell hu (fun q => by have := hne b q.symm; omega)
  obtain ⟨h0, h1, h2, h3, h4, h5, h6, h7⟩ := hr k r hk
  exact ⟨hx _ _ h0, hx _ _ h1, hx _ _ h2, hx _ _ h3, hx _ _ h4, hx _ _ h5, hx _ _ h6, hx _ _ h7⟩

theorem rules_lt {w : World} {a : Option Addr} {n : Nat} {zs : List RuleI} (h : RulesIn w a n zs) : ∀ b off, a = some ⟨b, off, none⟩ → n = 0 ∨ b < w.heap.size := by
  intro b off e
  by_cases h0 : n = 0
  · exact .inl h0
  · obtain ⟨b', off', r, e', _, hr⟩ := h.at (show 0 < n by omega)
    rw [e] at e'
    cases e'
    exact .inr (World.block_lt_of_cell? w _ hr.1)

theorem roomAt_below {w w' : World} {g n : Nat} (h : RoomAt w g n) (hg : g < w.heap.size) (hb : Below w.heap.size w w') : RoomAt w' g n :=
  ⟨fun j hj => by obtain ⟨v, e⟩ := h.1 j hj; exact ⟨v, (hb.cell (p := ⟨g, j, none⟩) hg).trans e⟩, fun j => (hb.frozen (p := ⟨g, j, none⟩) hg).trans (h.2 j)⟩

/-- A row of grants lies between two sizes. -/
theorem row3_lt {w : World} {B : Nat} {a : Option Addr} {cap : Nat} {ys : List GrI} (h : Own3 w B (.slice a ys.length cap) ys) : ∀ g, a = some ⟨g, 0, none⟩ → B ≤ g ∧ g < w.heap.size := by
  intro g e
  subst e
  have h0 : w.ownsRow B 154 3 (.slice (some ⟨g, 0, none⟩) ys.length cap) ys.length (flat3 ys) := h
  exact h0.lt g rfl

end Go.Proofs.YtaeigimgobilaaaGreatDoor

namespace Go.Proofs.YtaeigimgobilaaaGreatDoor
open Go.RowKit
set_option linter.unusedVariables false
set_option linter.unusedSimpArgs false

theorem hitAt_neg (f : RoI → Int) (r : RoI) (p : Int) : ∀ (zs : List RuleI) (i : Int), 0 ≤ i → (hitAt f r p zs i < 0 ↔ noneHit zs f r p)
  | [], i, _ => by
    constructor
    · intro _ z h; simp at h
    · intro _; show (-1 : Int) < 0; decide
  | z :: zs, i, h => by
    have ih := hitAt_neg f r p zs (i + 1) (by omega)
    show (if hitB f r p z = true then i else hitAt f r p zs (i + 1)) < 0 ↔ _
    cases e : hitB f r p z
    · rw [if_neg (by simp), ih]
      constructor
      · intro q y hy
        rcases List.mem_cons.1 hy with rfl | hy
        · exact e
        · exact q y hy
      · intro q y hy
        exact q y (by simp [hy])
    · rw [if_pos rfl]
      constructor
      · intro q; omega
      · intro q; have := q z (by simp); rw [e] at this; cases this

theorem it_const {zs : List RuleI} {M : Nat} (h : stepG zs (itG zs M) = itG zs M) : ∀ j, itG zs (M + j) = itG zs M
  | 0 => rfl
  | j + 1 => by
    show stepG zs (itG zs (M + j)) = _
    rw [it_const h j, h]

/-- The first step at which a grant follows, and it is among few. -/
theorem first_few {zs : List RuleI} (hz : ∀ z ∈ zs, okR z) {r : RoI} {p : Int} (h : Has zs r p) : ∃ n, n ≤ 10200 ∧ ¬ noneHit zs (ofG (itG zs n)) r p ∧ ∀ k, k < n → noneHit zs (ofG (itG zs k)) r p := by
  obtain ⟨n, h1, h2⟩ := first_of hz h
  refine ⟨n, ?_, h1, h2⟩
  obtain ⟨M, hM, hs⟩ := it_ends hz
  by_cases q : n ≤ M
  · omega
  · have e : itG zs n = itG zs M := by
      have := it_const hs (n - M)
      rwa [show M + (n - M) = n by omega] at this
    rw [e] at h1
    exact absurd (h2 M (by omega)) h1

def GivesP (f : Nat) (a : Option Addr) (n cap : Nat) (r : RoI) (p : Int) (c : Int) (ls : List Int) (w : World) : Prop := Calls Tryz.prog f #[.slice a n cap, .agg #[.int .i64 r.1, .int .i64 r.2], .int .i64 p] w fun e w' => ∃ (a' : Option Addr) (cap' : Nat), e = .returned (.agg #[.int .i64 c, .slice a' ls.length cap']) ∧ w'.ownsRow w.heap.size 2 1 (.slice a' ls.length cap') ls.length (ls.map (Value.int .i64)) ∧ Below w.heap.size w w'

end Go.Proofs.YtaeigimgobilaaaGreatDoor

namespace Go.Proofs.YtaeigimgobilaaaGreatDoor
open Go.RowKit
set_option linter.unusedVariables false
set_option linter.unusedSimpArgs false
attribute [local go_sem ↓] ro_eql

theorem hit_here {zs : List RuleI} {f : RoI → Int} {r : RoI} {p : Int} : ∀ (k : Nat) (z : RuleI), zs[k]? = some z → (∀ j y, j < k → zs[j]? = some y → hitB f r p y = false) → hitB f r p z = true → ∀ i : Int, hitAt f r p zs i = i + k := by
  induction zs with
  | nil => intro k z h; simp at h
  | cons y ys ih =>
    intro k z h hb ht i
    show (if hitB f r p y = true then i else hitAt f r p ys (i + 1)) = _
    cases k with
    | zero =>
      simp at h
      subst h
      rw [if_pos ht]; simp
    | succ k =>
      rw [if_neg (by rw [hb 0 y (by omega) (by simp)]; simp), ih k z (by simpa using h) (fun j x hj hx => hb (j + 1) x (by omega) (by simpa using hx)) ht]
      simp; omega

theorem none_all {zs : List RuleI} {f : RoI → Int} {r : RoI} {p : Int} {n : Nat} (hn : zs.length = n) (h : ∀ j y, j < n → zs[j]? = some y → hitB f r p y = false) : noneHit zs f r p := by
  intro z hz
  obtain ⟨j, hj⟩ := List.mem_iff_getElem?.1 hz
  have : j < n := by
    by_cases q : j < zs.length
    · omega
    · rw [List.getElem?_eq_none (by omega)] at hj; cases hj
  exact h j z this hj

end Go.Proofs.YtaeigimgobilaaaGreatDoor

namespace Go.Proofs.YtaeigimgobilaaaGreatDoor
open Go.RowKit Go.Maps
set_option linter.unusedVariables false
set_option linter.unusedSimpArgs false

/-- The entries of a map of grants: one for each role that somebody has. -/
theorem own_es {w : World} {b n : Nat} {D : DataW Unit} {f : RoI → Int} (hf : FN f) (ho : w.ownsMap Tryz.prog 66 elU b n D) (hv : View D f) : ∃ es : List (Lit × DataW Unit), D = .map es ∧ es.Pairwise (fun p q => p.1 ≠ q.1) ∧ (∀ p ∈ es, WideAt.IsKeyLit p.1) ∧ (∀ p ∈ es, ∃ r, f r ≠ 0 ∧ p = (keyL r, .lit (.int .u8 (f r)))) ∧ (∀ r, f r ≠ 0 → (keyL r, (.lit (.int .u8 (f r)) : DataW Unit)) ∈ es) := by
  obtain ⟨es', hD', hne, hks⟩ := ho.entries mp_keyed
  obtain ⟨es, clock, hb, F, hs, hD⟩ := ho
  have hkeys : ∀ p ∈ es', ∃ r, roW r ∧ p.1 = keyL r := by
    intro p hp
    have hp' : p ∈ es.toList.map (WideElems.rg Tryz.prog 66 elU) := by
      rw [hD] at hD'
      have := (DataW.map.inj hD').symm
      rw [this] at hp
      exact mem_sorted.1 hp
    obtain ⟨v, hvv⟩ := fit_keys F p hp'
    obtain ⟨r, hr, _, e⟩ := key_inv hvv
    exact ⟨r, hr, e⟩
  clear hb F hs hD
  have hval : ∀ p ∈ es', ∀ r, roW r → p.1 = keyL r → p.2 = .lit (.int .u8 (f r)) := by
    intro p hp r hr e
    have h1 := WideAt.atKey_mem (.lit (.int .u8 0)) (hks p hp) hne (show (p.1, p.2) ∈ es' from hp)
    have h2 := hv.at' r hr
    rw [hD', ← e] at h2
    rw [← h1]
    exact h2
  refine ⟨es', hD', hne, hks, fun p hp => ?_, fun r hr => ?_⟩
  · obtain ⟨r, hr, e⟩ := hkeys p hp
    refine ⟨r, ?_, Prod.ext e (hval p hp r hr e)⟩
    have h1 := hv.has r hr
    rw [hD', has_eq] at h1
    have : (es'.any fun p => p.1.sameKey (keyL r)) = true := List.any_eq_true.2 ⟨p, hp, by rw [e]; exact WideAt.sameKey_self (keyL_key r)⟩
    rw [this] at h1
    exact of_decide_eq_true h1.symm
  · have hw := roW_of (hf.ro r hr)
    have h1 := hv.has r hw
    rw [hD', has_eq, show decide (f r ≠ 0) = true from decide_eq_true hr] at h1
    obtain ⟨p, hp, hsk⟩ := List.any_eq_true.1 h1
    have e : p.1 = keyL r := WideAt.sameKey_eq hsk
    have := hval p hp r hw e
    rw [← e, ← this]
    exact hp

def eqd8 : DataW Unit → DataW Unit → Bool
  | .lit (.int .u8 a), .lit (.int .u8 b) => decide (a = b)
  | _, _ => false

theorem equal_iff {w w' : World} {b1 b2 n1 n2 : Nat} {D1 D2 : DataW Unit} {f1 f2 : RoI → Int} (hf1 : FN f1) (hf2 : FN f2) (h1 : w.ownsMap Tryz.prog 66 elU b1 n1 D1) (h2 : w'.ownsMap Tryz.prog 66 elU b2 n2 D2) (hv1 : View D1 f1) (hv2 : View D2 f2) : Lib.equalFuncD eqd8 D1 D2 = true ↔ f1 = f2 := by
  obtain ⟨es1, rfl, hap1, hk1, hm1, hc1⟩ := own_es hf1 h1 hv1
  obtain ⟨es2, rfl, hap2, hk2, hm2, hc2⟩ := own_es hf2 h2 hv2
  have hn1 : (es1.map Prod.fst).Nodup := List.pairwise_map.2 hap1
  have hn2 : (es2.map Prod.fst).Nodup := List.pairwise_map.2 hap2
  have good : ∀ r, f1 r ≠ 0 → (Lib.goodD eqd8 (.map es2) (keyL r, .lit (.int .u8 (f1 r))) = true ↔ f2 r = f1 r) := by
    intro r hr
    have hw := roW_of (hf1.ro r hr)
    unfold Lib.goodD
    rw [hv2.has r hw]
    by_cases e : f2 r = 0
    · rw [show decide (f2 r ≠ 0) = false by simp [e]]
      simp
      intro q; rw [q] at e; exact hr e
    · rw [show decide (f2 r ≠ 0) = true from decide_eq_true e]
      rw [atKey_indep (z := .nil) (z' := .lit (.int .u8 0)) (by rw [hv2.has r hw]; exact decide_eq_true e), hv2.at' r hw]
      simp [eqd8, eq_comm]
  unfold Lib.equalFuncD
  rw [Bool.and_eq_true, decide_eq_true_iff, size_eq, size_eq, List.all_eq_true]
  constructor
  · rintro ⟨hs, hall⟩
    have h12 : ∀ r, f1 r ≠ 0 → f2 r = f1 r := fun r hr => (good r hr).1 (hall _ (hc1 r hr))
    funext r
    by_cases h : f1 r = 0
    · by_cases e : f2 r = 0
      · rw [h, e]
      · exfalso
        have hnd : (keyL r :: es1.map Prod.fst).Nodup := by
          refine List.nodup_cons.2 ⟨fun q => ?_, hn1⟩
          obtain ⟨p, hp, ep⟩ := List.mem_map.1 q
          obtain ⟨r', hr', rfl⟩ := hm1 p hp
          have := keyL_inj (roW_of (hf1.ro r' hr')) (roW_of (hf2.ro r e)) ep
          rw [this] at hr'
          exact hr' h
        have := @nodup_len Lit (fun _ _ => Classical.propDecidable _) (keyL r :: es1.map Prod.fst) (es2.map Prod.fst) hnd (fun x hx => by
          rcases List.mem_cons.1 hx with rfl | hx
          · exact List.mem_map.2 ⟨_, hc2 r e, rfl⟩
          · obtain ⟨p, hp, rfl⟩ := List.mem_map.1 hx
            obtain ⟨r', hr', rfl⟩ := hm1 p hp
            exact List.mem_map.2 ⟨_, hc2 r' (by rw [h12 r' hr']; exact hr'), rfl⟩)
        simp at this
        omega
    · exact (h12 r h).symm
  · rintro rfl
    refine ⟨Nat.le_antisymm ?_ ?_, fun p hp => ?_⟩
    · have := @nodup_len Lit (fun _ _ => Classical.propDecidable _) (es1.map Prod.fst) (es2.map Prod.fst) hn1 (fun x hx => by
        obtain ⟨p, hp, rfl⟩ := List.mem_map.1 hx
        obtain ⟨r', hr', rfl⟩ := hm1 p hp
        exact List.mem_map.2 ⟨_, hc2 r' hr', rfl⟩)
      simpa using this
    · have := @nodup_len Lit (fun _ _ => Classical.propDecidable _) (es2.map Prod.fst) (es1.map Prod.fst) hn2 (fun x hx => by
        obtain ⟨p, hp, rfl⟩ := List.mem_map.1 hx
        obtain ⟨r', hr', rfl⟩ := hm2 p hp
        exact List.mem_map.2 ⟨_, hc1 r' hr', rfl⟩)
      simpa using this
    · obtain ⟨r, hr, rfl⟩ := hm1 p hp
      exact (good r hr).2 rfl

end Go.Proofs.YtaeigimgobilaaaGreatDoor

namespace Go.Proofs.YtaeigimgobilaaaGreatDoor
open Go.RowKit Go.Maps
set_option linter.unusedVariables false
set_option linter.unusedSimpArgs false

theorem settleW_c (a : Option Addr) (n cap : Nat) (zs : List RuleI) (gs : List GrI) (w : World) (h : RulesIn w a n zs) (hc : polCode zs = 0) (hg : AllG zs gs) :
    Calls Tryz.prog 64 #[.slice a n cap] w fun e w' => ∃ b, e = .returned (.map (some b)) ∧ GM w' b (ofG gs) ∧ w.heap.size ≤ b ∧ Below w.heap.size w w' := by
  refine (settle_c a n cap zs w h (pol_n16 h.1 hc) hc).mono ?_
  rintro e w' ⟨b, f, rfl, hG, hWk, hb, hb2⟩
  obtain ⟨gs', h1, h2⟩ := gm_list hG
  have := allG_unique (work_end (fun z hz => ((pol_ok hc).2 z hz).1) hWk h1 h2) hg
  exact ⟨b, rfl, by rw [← this, h2]; exact hG, hb, hb2⟩

theorem l3AllW_c (a : Option Addr) (n cap : Nat) (zs : List RuleI) (gs : List GrI) (w : World) (h : RulesIn w a n zs) (hc : polCode zs = 0) (hg : AllG zs gs) :
    Calls Tryz.prog 76 #[.slice a n cap] w fun e w' => ∃ g l cap', e = .returned (.slice (some ⟨g, 0, none⟩) l cap') ∧ GrIn w' (some ⟨g, 0, none⟩) l gs ∧ l ≤ 40 ∧ Below w.heap.size w w' := by
  refine (l3All_c a n cap zs w h (by have := pol_n16 h.1 hc; omega) (pol_ok hc).2).mono ?_
  rintro e w' ⟨g, l, cap', gs', rfl, h1, h2, h3, h4, hb⟩
  obtain rfl := allG_unique h2 hg
  exact ⟨g, l, cap', rfl, h4.read h1, by have := sg_len hg.sg; omega, hb⟩

/-- Who has what by the one has it by the other. -/
def Wid (fa fb : RoI → Int) : Prop := ∀ r, orI (fb r) (fa r) = fb r

theorem and_or {s t : Int} (hs : setB s) (ht : setB t) : andI s t = s ↔ orI t s = t := by
  have hand := and_set hs ht
  have hor := or_set ht hs
  constructor
  · intro h
    refine set_ext hor ht (fun p h0 h1 => ?_)
    rw [hasI_or ht hs]
    have := congrArg (fun q => hasI q p) h
    simp only [hasI_and hs ht] at this
    cases e1 : hasI s p <;> cases e2 : hasI t p <;> simp [e1, e2] at this ⊢
  · intro h
    refine set_ext hand hs (fun p h0 h1 => ?_)
    rw [hasI_and hs ht]
    have := congrArg (fun q => hasI q p) h
    simp only [hasI_or ht hs] at this
    cases e1 : hasI s p <;> cases e2 : hasI t p <;> simp [e1, e2] at this ⊢

theorem wid_iff {ga gb : List GrI} (ha : SG ga) (hb : SG gb) : Wid (ofG ga) (ofG gb) ↔ ∀ x ∈ ga, andI x.2 (ofG gb x.1) = x.2 := by
  constructor
  · intro h x hx
    have := h x.1
    rw [ofG_mem ha hx] at this
    exact (and_or (by have := ha.st x hx; exact ⟨by omega, by omega⟩) (ofG_set hb _)).2 this
  · intro h r
    by_cases e : ofG ga r = 0
    · rw [e]
      refine set_ext (or_set (ofG_set hb r) ⟨by omega, by omega⟩) (ofG_set hb r) (fun p _ _ => ?_)
      rw [hasI_or (ofG_set hb r) ⟨by omega, by omega⟩, hasI_zero]; simp
    · have := h _ (ofG_some e)
      exact (and_or (ofG_set ha r) (ofG_set hb r)).1 this

theorem GM.kept {w w' : World} {b q : Nat} {f : RoI → Int} (h : GM w b f) (hg : w.grownBy w' (some q)) (hne : b ≠ q) : GM w' b f := gm_heap h (hg.block b h.lt (by simp [hne]))

def GivesW (f : Nat) (a : Option Addr) (n cap : Nat) (a' : Option Addr) (m cap' : Nat) (t : Bool) (w : World) : Prop := Calls Tryz.prog f #[.slice a n cap, .slice a' m cap'] w fun e w' => e = .returned (.bool t) ∧ Below w.heap.size w w'

end Go.Proofs.YtaeigimgobilaaaGreatDoor

namespace Go.Proofs.YtaeigimgobilaaaGreatDoor
open Go.RowKit
set_option linter.unusedVariables false

theorem ones_eq : ∀ n : Fin 256, Lib.onesCount n.val = (listTo (n.val : Int) 8).length := by decide +kernel

end Go.Proofs.YtaeigimgobilaaaGreatDoor

namespace Go.Proofs.YtaeigimgobilaaaGreatDoor
open Go.RowKit
set_option linter.unusedVariables false

/-- The marks k, k + 1, .. -/
def marks (k n : Nat) : List Int := (List.range n).map (fun i => ((k + i : Nat) : Int))

theorem marks_len (k n : Nat) : (marks k n).length = n := by simp [marks]
theorem marks_at (k n j : Nat) (h : j < n) : (marks k n)[j]?.getD 0 = ((k + j : Nat) : Int) := by simp [marks, h]

theorem owns_parts {w : World} {b : Nat} {t : TypeId} {a : Option Addr} {n cap : Nat} {xs : List Value} (h : w.ownsRow b t 1 (.slice a n cap) n xs) :
    xs.length = n ∧ (n = 0 ∨ ∃ g, a = some ⟨g, 0, none⟩) := by
  refine ⟨by simpa using h.1, ?_⟩
  rcases h.2 with ⟨h', h0⟩ | ⟨g, cap', cur, h', _⟩
  · exact .inl h0
  · simp at h'; exact .inr ⟨g, h'.1⟩

theorem row_of_owns {w : World} {b : Nat} {a : Option Addr} {n cap : Nat} {zs : List Int} (h : w.ownsRow b 2 1 (.slice a n cap) n (zs.map (Value.int .i64))) : RowIn w a n zs := by
  obtain ⟨hl, hc⟩ := owns_parts h
  simp at hl
  refine ⟨by omega, fun k hk => ?_⟩
  rcases hc with h0 | ⟨g, rfl⟩
  · omega
  · refine ⟨g, 0, rfl, ?_⟩
    rw [Nat.zero_add, h.cellAt k (by omega)]
    simp [List.getElem?_eq_getElem (show k < zs.length by omega)]

/-- A row that another block's writes leave. -/
theorem RowIn.kept {w w' : World} {a : Option Addr} {n : Nat} {zs : List Int} {row : Option Nat} (h : RowIn w a n zs) (hg : w.grownBy w' row) (hne : ∀ g off, a = some ⟨g, off, none⟩ → some g ≠ row) : RowIn w' a n zs := by
  refine ⟨h.1, fun k hk => ?_⟩
  obtain ⟨g, off, e, hc⟩ := h.2 k hk
  exact ⟨g, off, e, hg.cell hc (hne g off e)⟩

theorem owns_block {w : World} {b : Nat} {a : Option Addr} {n cap : Nat} {xs : List Value} (h : w.ownsRow b 2 1 (.slice a n cap) n xs) : ∀ g off, a = some ⟨g, off, none⟩ → b ≤ g ∧ g < w.heap.size := by
  intro g off e
  subst e
  exact h.lt g rfl

theorem owns_below {w w' : World} {b : Nat} {v : Value} {n : Nat} {xs : List Value} (h : w.ownsRow b 2 1 v n xs) (hb : Below w.heap.size w w') : w'.ownsRow b 2 1 v n xs :=
  h.kept (row := none) ⟨hb.os, hb.tape, hb.output, hb.size, fun k hk _ => hb.block k hk⟩ (by rcases h.2 with ⟨rfl, _⟩ | ⟨g, cap, cur, rfl, _⟩; exact .inl rfl; exact .inr (by simp [Value.ownBlock]))

end Go.Proofs.YtaeigimgobilaaaGreatDoor

namespace Go.Proofs.YtaeigimgobilaaaGreatDoor
open Go.RowKit
set_option linter.unusedVariables false
set_option linter.unusedSimpArgs false

theorem Tryz.info4 : (Tryz.prog.info? 4).map (fun i => (i.zero, i.size, i.bytes)) = some (some (.bool false), 1, 1) := by kernel_rfl
theorem Tryz.info88 : (Tryz.prog.info? 88).map (fun i => (i.zero, i.size, i.bytes)) = some (some (.slice none 0 0), 1, 24) := by kernel_rfl

/-- A row of 256 marks in a block. -/
def RowF (w : World) (g : Nat) (T : TS) : Prop := ∀ x, x < 256 → w.cell? ⟨g, x, none⟩ = some (.bool (T x))
theorem RowF.lt {w : World} {g : Nat} {T : TS} (h : RowF w g T) : g < w.heap.size := World.block_lt_of_cell? w ⟨g, 0, none⟩ (h 0 (by omega))
theorem RowF.below {w w' : World} {g : Nat} {T : TS} (h : RowF w g T) (hb : Below w.heap.size w w') : RowF w' g T := fun x hx => (hb.cell (p := ⟨g, x, none⟩) h.lt).trans (h x hx)
theorem RowF.kept {w w' : World} {g : Nat} {T : TS} {row : Option Nat} (h : RowF w g T) (hg : w.grownBy w' row) (hne : some g ≠ row) : RowF w' g T := fun x hx => hg.cell (h x hx) hne
theorem RowF.put {w : World} {g : Nat} {T : TS} (h : RowF w g T) {i : Nat} (hi : i < 256) : RowF (w.setCell ⟨g, i, none⟩ (.bool true)) g (putT T i) := fun x hx => by
  unfold putT
  by_cases e : x = i
  · subst e
    rw [if_pos rfl]
    simp [go_sem, h x hx]
  · rw [if_neg e, World.cell?_setCell_other (h := fun q => e (by have := congrArg Addr.off q; simp at this; omega))]
    exact h x hx
theorem RowF.ext {w : World} {g : Nat} {T U : TS} (h : RowF w g T) (e : ∀ x, x < 256 → T x = U x) : RowF w g U := fun x hx => by rw [← e x hx]; exact h x hx

def slV (g : Nat) : Value := .slice (some ⟨g, 0, none⟩) 256 256

/-- The rows told so far. -/
structure L4 (W : World) (ts : List TS) (gsl : List Nat) (v : Value) (wr : World) : Prop where
  ow : wr.ownsRow W.heap.size 88 1 v ts.length (gsl.map slV)
  ln : gsl.length = ts.length
  rw : ∀ (i g : Nat) (T : TS), gsl[i]? = some g → ts[i]? = some T → RowF wr g T
  ne : ∀ g ∈ gsl, v.ownBlock ≠ some g
  bl : Below W.heap.size W wr
  vn : v ≠ .slice none 0 0

theorem L4.below {W : World} {ts : List TS} {gsl : List Nat} {v : Value} {wr wr' : World} (h : L4 W ts gsl v wr) (hb : Below wr.heap.size wr wr') : L4 W ts gsl v wr' := by
  refine ⟨?_, h.ln, fun i g T e1 e2 => (h.rw i g T e1 e2).below hb, h.ne, h.bl.trans (hb.mono h.bl.size), h.vn⟩
  exact h.ow.kept (row := none) ⟨hb.os, hb.tape, hb.output, hb.size, fun k hk _ => hb.block k hk⟩ (by rcases h.ow.2 with ⟨e, _⟩ | ⟨g, cap, cur, e, _⟩; exact .inl (by rw [e]; rfl); exact .inr (by rw [e]; simp [Value.ownBlock]))

theorem L4.shape {W : World} {ts : List TS} {gsl : List Nat} {v : Value} {wr : World} (h : L4 W ts gsl v wr) : ∃ b cap, v = .slice (some ⟨b, 0, none⟩) ts.length cap := by
  rcases h.ow.2 with ⟨e, _⟩ | ⟨g, cap, cur, e, _⟩
  · exact absurd e h.vn
  · exact ⟨g, cap, e⟩

/-- A told row, by its place. -/
theorem L4.at {W : World} {ts : List TS} {gsl : List Nat} {b n cap : Nat} {wr : World} (h : L4 W ts gsl (.slice (some ⟨b, 0, none⟩) n cap) wr) {i : Nat} {T : TS} (e : ts[i]? = some T) : ∃ g, wr.cell? ⟨b, i, none⟩ = some (.slice (some ⟨g, 0, none⟩) 256 256) ∧ RowF wr g T ∧ gsl[i]? = some g := by
  have hi : i < ts.length := by
    by_cases q : i < ts.length
    · exact q
    · rw [List.getElem?_eq_none (by omega)] at e; cases e
  have hg : gsl[i]? = some (gsl[i]'(by rw [h.ln]; exact hi)) := List.getElem?_eq_getElem _
  refine ⟨_, ?_, h.rw i _ T hg e, hg⟩
  obtain rfl : n = ts.length := by
    rcases h.ow.2 with ⟨e', _⟩ | ⟨g, cap', cur, e', _⟩
    · exact absurd e' h.vn
    · simp at e'; exact e'.2.1
  rw [h.ow.cellAt i (by omega), List.getElem?_map, hg]
  rfl

/-- One more row behind an append. -/
theorem L4.next {W : World} {ts : List TS} {gsl : List Nat} {v v' : Value} {wr w' : World} {o : Obj} {h : Nat} {T : TS} (H : L4 W ts gsl v wr) (hT : RowF wr h T) (hv : v.ownBlock ≠ some h) (hown' : w'.ownsRow W.heap.size 88 1 v' (ts.length + 1) (gsl.map slV ++ [slV h])) (hgrow : (wr.alloc o).grownBy w' v.ownBlock) (hn : v' ≠ .slice none 0 0) :
    L4 W (ts ++ [T]) (gsl ++ [h]) v' w' := by
  have A1 : Below wr.heap.size wr (wr.alloc o) := (Below.refl _ _).alloc (Nat.le_refl _) _
  have rows : ∀ (i g : Nat) (U : TS), (gsl ++ [h])[i]? = some g → (ts ++ [T])[i]? = some U → RowF w' g U := by
    intro i g U e1 e2
    by_cases hi : i < gsl.length
    · rw [List.getElem?_append_left hi] at e1
      rw [List.getElem?_append_left (by rw [← H.ln]; exact hi)] at e2
      exact ((H.rw i g U e1 e2).below A1).kept hgrow (fun e => H.ne g (List.mem_of_getElem? e1) e.symm)
    · have hil : i = gsl.length := by
        by_cases q : i < (gsl ++ [h]).length
        · simp at q; omega
        · rw [List.getElem?_eq_none (by omega)] at e1; cases e1
      subst hil
      rw [List.getElem?_append_right (Nat.le_refl _), Nat.sub_self] at e1
      rw [H.ln, List.getElem?_append_right (Nat.le_refl _), Nat.sub_self] at e2
      simp at e1 e2
      subst e1 e2
      exact (hT.below A1).kept hgrow (fun e => hv e.symm)
  refine ⟨by simpa using hown', by simp [H.ln], rows, fun g hg e => ?_, (H.bl.alloc H.bl.size o).grown hgrow (by have := H.bl.size; simp; omega) (fun j hj => (H.ow.lt j hj).1), hn⟩
  obtain ⟨i, hi⟩ := List.mem_iff_getElem?.1 hg
  have hil : i < (gsl ++ [h]).length := by
    by_cases q : i < (gsl ++ [h]).length
    · exact q
    · rw [List.getElem?_eq_none (by omega)] at hi; cases hi
  obtain ⟨u, hu⟩ : ∃ u, (ts ++ [T])[i]? = some u := ⟨_, List.getElem?_eq_getElem (by simp at hil ⊢; have := H.ln; omega)⟩
  have hr := rows i g u hi hu 0 (by omega)
  clear rows hu hi
  rcases hown'.2 with ⟨e0, _⟩ | ⟨b, cap, cur, e0, _⟩
  · exact hn e0
  · rw [e0] at e hown'
    simp [Value.ownBlock] at e
    subst e
    have hc := hown'.cellAt 0 (by omega)
    rw [hr] at hc
    cases hgl : gsl with
    | nil => rw [hgl] at hc; simp [slV] at hc
    | cons x xs => rw [hgl] at hc; simp [slV] at hc

/-- 'make([]bool, 256)'. -/
theorem make_row (w : World) : ∃ wm, (Instr.makeSlice 88 (.int .i64 256) (.int .i64 256)).run Tryz.prog w = .ok (.slice (some ⟨w.heap.size, 0, none⟩) 256 256) wm ∧ RowF wm w.heap.size noT ∧ (∀ j, wm.frozen? ⟨w.heap.size, j, none⟩ = false) ∧ w.heap.size < wm.heap.size ∧ Below w.heap.size w wm := by
  obtain ⟨i0, hi, hz0, hz1, hz2⟩ := info_parts Tryz.info4
  obtain ⟨wm, hmk, hownm, hgrm⟩ := run_make_full (P := Tryz.prog) (w := w) w.heap.size 88 4 i0 (.bool false) 1 Tryz.underlying88 hi hz0 hz1 .i64 .i64 256 (by rw [hz2]; omega) (by unfold maxLen; omega) (Nat.le_refl _)
  refine ⟨wm, hmk, fun x hx => ?_, fun j => hownm.frozenAt j, (hownm.lt _ rfl).2, (Below.refl _ _).grown hgrm (Nat.le_refl _) (fun k e => by cases e)⟩
  rw [hownm.cellAt x (by omega)]
  simp [madeCells, Value.cells, noT]
  exact ⟨x, by simp [hx], by simp [Nat.mod_one]⟩

theorem oneL_end (s : Int) : (listTo s 8).foldl (fun T p => putT T (2 ^ (p - 1).toNat)) noT = oneT s := by
  funext x
  rw [Bool.eq_iff_iff]
  unfold oneT
  rw [putL_iff, List.any_eq_true]
  constructor
  · rintro (q | ⟨p, hp, e⟩)
    · cases q
    · obtain ⟨h0, h1, h2⟩ := mem_listTo.1 hp
      refine ⟨(p - 1).toNat, List.mem_range.2 (by omega), ?_⟩
      rw [Bool.and_eq_true]
      refine ⟨by simp [e], ?_⟩
      rw [show (((p - 1).toNat : Nat) : Int) + 1 = p by omega]
      exact h2
  · rintro ⟨p, hp, e⟩
    rw [Bool.and_eq_true] at e
    have hp := List.mem_range.1 hp
    exact .inr ⟨(p : Int) + 1, mem_listTo.2 ⟨by omega, by omega, e.2⟩, by simpa using e.1⟩

set_option maxRecDepth 100000 in
set_option maxHeartbeats 4000000 in
theorem l4Sets_c (a : Option Addr) (n cap : Nat) (zs : List RuleI) (a' : Option Addr) (m cap' : Nat) (ps : List PartI) (gs : List GrI) (w : World) (h : RulesIn w a n zs) (hc : polCode zs = 0) (hg : AllG zs gs) (hp : PartsIn w a' m ps) (hpc : ptCode ps = 0) :
    Calls Tryz.prog 46 #[.slice a n cap, .slice a' m cap'] w fun e w' => ∃ g, e = .returned (.slice (some ⟨g, 0, none⟩) 256 256) ∧ RowF w' g (tellsL (ofG gs) ps) ∧ Below w.heap.size w w' := by
  have hm8 : m ≤ 8 := by have := (pt_all hpc).2.1; have := hp.1; omega
  have hm1 : 1 ≤ m := by have := (pt_all hpc).1; have := hp.1; omega
  have HP : Hid (PartsIn w a' m ps) := hp
  have HPA : Hid (∀ k x, ps[k]? = some x → ptOne k x = 0) := (pt_all hpc).2.2
  have HST : Hid (∀ q, setB (ofG gs q)) := fun q => ofG_set hg.sg q
  have HA : Hid (Calls Tryz.prog 76 #[.slice a n cap] w fun e w' => ∃ g l cap', e = .returned (.slice (some ⟨g, 0, none⟩) l cap') ∧ GrIn w' (some ⟨g, 0, none⟩) l gs ∧ l ≤ 40 ∧ Below w.heap.size w w') := l3AllW_c a n cap zs gs w h hc hg
  obtain ⟨i0, hi, hz0, hz1, hz2⟩ := info_parts Tryz.info88
  clear h hp hc hg hpc
  go_enter Tryz.func46, Tryz.ntmps46
  go_wp2_with fail
  refine (HA.out).mono ?_
  rintro e W ⟨gg, lg, cg, rfl, hgr, hlg, hbW⟩
  have HGr : Hid (GrIn W (some ⟨gg, 0, none⟩) lg gs) := hgr
  have HPW : Hid (PartsIn W a' m ps) := HP.out.below hbW
  have HL0 : Hid (L4 W [] [] (.slice (some ⟨W.heap.size, 0, none⟩) 0 0) (W.alloc (.cells #[] 88))) := ⟨World.ownsRow_lit W #[] 0 (Nat.le_refl _) (Nat.zero_le _) rfl, rfl, fun i g T e => by simp at e, fun g hg => by simp at hg, (Below.refl _ _).alloc (Nat.le_refl _) _, by simp⟩
  clear hgr HA HP
  go_wp2_with fail
  have hmm : (m : Int) ≤ 8 := by omega
  go_loopw [6, 7] (fun v i wr => ∃ (k : Nat) (gsl : List Nat), k ≤ m ∧ i = .int .i64 (k : Int) ∧ Hid (L4 W (tellsTo (ofG gs) ps k) gsl v wr)) (fun _ i _ => m - (intOf i).toNat)
  case atStart => exact ⟨0, [], Nat.zero_le _, rfl, HL0⟩
  case round =>
    obtain ⟨k, gsl, hk, rfl, HT⟩ := hrel
    have hkl : (tellsTo (ofG gs) ps k).length = k := tellsTo_len _ ps k (by have := HPW.out.1; omega)
    obtain ⟨vb, vc, hve⟩ := HT.out.shape
    rw [hkl] at hve
    subst hve
    by_cases hlt : k < m
    · obtain ⟨pg, off, x, ea, hx, hpa⟩ := HPW.out.at hlt
      subst ea
      have HX : Hid (ps[k]? = some x) := hx
      have h0 : ptOne k x = 0 := HPA.out k x hx
      obtain ⟨g0, g1, g2, g3, g4⟩ := hpa.below HT.out.bl
      clear hx hpa
      have hlt' : (k : Int) < (m : Int) := by omega
      obtain ⟨X, hX⟩ : ∃ X, X = wr.alloc (.cells #[.int .i64 x.k, .int .i64 x.ro, .int .i64 x.rn, .int .i64 x.l, .int .i64 x.r] 104) := ⟨_, rfl⟩
      have AX : Below wr.heap.size wr X := by rw [hX]; exact (Below.refl _ _).alloc (Nat.le_refl _) _
      have hXs : X.heap.size = wr.heap.size + 1 := by rw [hX]; simp
      have hpx : PartAt X wr.heap.size 0 x := by rw [hX]; simp [PartAt]
      obtain ⟨Y, hmk, hY, hfY, hsY, hbY⟩ := make_row X
      have HPX : Hid (PartAt Y wr.heap.size 0 x) := hpx.below hbY
      have HPX0 : Hid (PartAt X wr.heap.size 0 x) := hpx
      clear hpx
      have HTX : Hid (L4 W (tellsTo (ofG gs) ps k) gsl (.slice (some ⟨vb, 0, none⟩) k vc) X) := HT.out.below AX
      have HRY : Hid (RowF Y X.heap.size noT ∧ ∀ j, Y.frozen? ⟨X.heap.size, j, none⟩ = false) := ⟨hY, hfY⟩
      have hvX : vb < X.heap.size := (HTX.out.ow.lt vb rfl).2
      clear hY hfY AX
      have HE : Hid (tellsTo (ofG gs) ps (k + 1) = tellsTo (ofG gs) ps k ++ [tellOne (ofG gs) (tellsTo (ofG gs) ps k) x]) := by rw [tellsTo_next HX.out]; trivial
      rw [hX] at hmk
      go_upto_region 8 with fail
      clear hmk hX g0 g1 g2 g3 g4
      have HTY : Hid (L4 W (tellsTo (ofG gs) ps k) gsl (.slice (some ⟨vb, 0, none⟩) k vc) Y) := HTX.out.below hbY
      have HGY : Hid (GrIn Y (some ⟨gg, 0, none⟩) lg gs) := HGr.out.below HTY.out.bl
      obtain ⟨q, hq0⟩ : ∃ q, q = wr.heap.size + 1 := ⟨_, rfl⟩
      have hq : q = X.heap.size := by omega
      obtain ⟨P, hPq⟩ : ∃ P, P = wr.heap.size := ⟨_, rfl⟩
      have hPl : P < q := by omega
      have hvq : (Value.slice (some ⟨vb, 0, none⟩) k vc).ownBlock ≠ some q := by simp [Value.ownBlock]; omega
      rw [← hq] at HRY hsY
      rw [← hq0]
      rw [← hPq] at HPX HPX0 ⊢
      have hvl : vb < q := by omega
      have hgl : ∀ (i g : Nat), gsl[i]? = some g → g < q := fun i g e => by
        obtain ⟨u, hu⟩ : ∃ u, (tellsTo (ofG gs) ps k)[i]? = some u := ⟨_, List.getElem?_eq_getElem (by
          have := HTX.out.ln
          by_cases qq : i < gsl.length
          · omega
          · rw [List.getElem?_eq_none (by omega)] at e; cases e)⟩
        have := (HTX.out.rw i g u e hu).lt
        omega
      have HGL : Hid (∀ (i g : Nat), gsl[i]? = some g → g < q) := hgl
      have HYX : Hid (Below q X Y) := by rw [hq]; exact hbY
      have HXQ : Hid (q = X.heap.size) := hq
      clear hgl hPq hbY HT hq hq0 hXs hvX
      obtain ⟨p0, p1, p2, p3, p4⟩ := HPX.out
      simp only [Nat.zero_add] at p0 p1 p2 p3 p4
      by_cases ek : x.k = 1
      · have b1 : (x.k == 1) = true := by simp [ek]
        obtain ⟨v, hv⟩ : ∃ v, v = ofG gs (x.ro, x.rn) := ⟨_, rfl⟩
        have hvs : setB v := by rw [hv]; exact HST.out _
        have HO : Hid (tellOne (ofG gs) (tellsTo (ofG gs) ps k) x = oneT v) := by unfold tellOne; rw [if_pos ek, hv]; trivial
        clear ek h0
        go_wp2_with fail
        refine (l3Of_c _ _ _ gs (x.ro, x.rn) _ HGY.out (by omega)).mono ?_
        rintro e Z1 ⟨rfl, hz1'⟩
        rw [← hv]
        clear hv
        go_wp2_with fail
        refine (l1List_c v hvs.1 hvs.2 _).mono ?_
        rintro e Z ⟨lg1, lc1, rfl, hown, hz2'⟩
        have hbZ : Below Y.heap.size Y Z := hz1'.trans (hz2'.mono hz1'.size)
        have HLr : Hid (RowIn Z (some ⟨lg1, 0, none⟩) (listTo v 8).length (listTo v 8)) := row_of_owns hown
        have hlq : q < lg1 := by have := (hown.lt lg1 rfl).1; have := hz1'.size; omega
        have HRZ : Hid (RowF Z q noT ∧ ∀ j, Z.frozen? ⟨q, j, none⟩ = false) := ⟨HRY.out.1.below hbZ, fun j => (hbZ.frozen (p := ⟨q, j, none⟩) HRY.out.1.lt).trans (HRY.out.2 j)⟩
        have HBZ : Hid (Below q X Z) := HYX.out.trans (hbZ.mono (by have := HYX.out.size; omega))
        obtain ⟨ll, hll⟩ : ∃ ll, ll = listTo v 8 := ⟨_, rfl⟩
        have HLL : Hid (ll = listTo v 8) := hll
        have hll8 : ll.length ≤ 8 := by rw [hll]; exact listTo_le v 8
        rw [← hll] at HLr ⊢
        clear hown hz1' hz2' hbZ HTY HGY HRY HYX hll p0 p1 p2 p3 p4 HPX
        have hll' : (ll.length : Int) ≤ 8 := by omega
        go_wp2_with fail
        go_loopw [11] (fun i wj => ∃ (j : Nat) (T : TS), j ≤ ll.length ∧ i = .int .i64 (j : Int) ∧ Hid ((RowF wj q T ∧ ∀ o, wj.frozen? ⟨q, o, none⟩ = false) ∧ RowIn wj (some ⟨lg1, 0, none⟩) ll.length ll ∧ Below q X wj ∧ T = (ll.take j).foldl (fun T p => putT T (2 ^ (p - 1).toNat)) noT)) (fun i _ => ll.length - (intOf i).toNat)
        case atStart => exact ⟨0, noT, Nat.zero_le _, rfl, HRZ.out, HLr.out, HBZ.out, by simp⟩
        case round =>
          obtain ⟨j, T, hj, rfl, HJ⟩ := hrel
          by_cases hjl : j < ll.length
          · obtain ⟨⟨hrow, hfro⟩, hli, hbj, hT⟩ := HJ.out
            obtain ⟨lb, lo, le, lc⟩ := hli.2 j hjl
            cases le
            simp only [Nat.zero_add] at lc
            obtain ⟨y, hy⟩ : ∃ y, y = ll[j]?.getD 0 := ⟨_, rfl⟩
            rw [← hy] at lc
            have hyj : ll[j]? = some y := by rw [hy, List.getElem?_eq_getElem hjl]; rfl
            have hym : 1 ≤ y ∧ y ≤ 8 := by
              have := List.mem_of_getElem? hyj
              rw [HLL.out] at this
              obtain ⟨u1, u2, _⟩ := mem_listTo.1 this
              exact ⟨u1, by omega⟩
            obtain ⟨z, hz⟩ : ∃ z, z = 2 ^ (y - 1).toNat := ⟨_, rfl⟩
            have hz256 : z < 256 := by rw [hz]; exact Nat.pow_lt_pow_right (by omega) (show (y - 1).toNat < 8 by omega)
            have hbz : bitI y = (z : Int) := by rw [hz]; rfl
            have cz : wr.cell? ⟨q, z, none⟩ = some (.bool (T z)) := hrow z hz256
            have fz := hfro z
            have hz' : (z : Int) < 256 := by omega
            have hjl' : (j : Int) < (ll.length : Int) := by omega
            have HJ2 : Hid ((RowF (wr.setCell ⟨q, z, none⟩ (.bool true)) q (putT T z) ∧ ∀ o, (wr.setCell ⟨q, z, none⟩ (.bool true)).frozen? ⟨q, o, none⟩ = false) ∧ RowIn (wr.setCell ⟨q, z, none⟩ (.bool true)) (some ⟨lg1, 0, none⟩) ll.length ll ∧ Below q X (wr.setCell ⟨q, z, none⟩ (.bool true)) ∧ putT T z = (ll.take (j + 1)).foldl (fun T p => putT T (2 ^ (p - 1).toNat)) noT) := by
              refine ⟨⟨hrow.put hz256, fun o => by rw [World.frozen?_setCell]; exact hfro o⟩, ⟨hli.1, fun i hi' => ?_⟩, hbj.setCell (p := ⟨q, z, none⟩) (Nat.le_refl _) _, ?_⟩
              · obtain ⟨b2, o2, e2, c2⟩ := hli.2 i hi'
                cases e2
                exact ⟨lg1, 0, rfl, by rw [World.cell?_setCell_other (h := fun e => by have := congrArg Addr.block e; simp at this; omega)]; exact c2⟩
              · rw [hT, List.take_add_one, hyj]; simp [List.foldl_append, hz]
            clear HJ hrow hfro hli hbj hT hy hyj hz
            go_wp2_with (first | (go_at_call 79; refine (l1Bit_c y hym.1 hym.2 _).mono ?_; rintro e wb ⟨rfl, rfl⟩; rw [hbz]) | fail)
            exact ⟨⟨j + 1, putT T z, by omega, by go_num, HJ2⟩, by simp [intOf]; omega⟩
          · have hje : j = ll.length := by omega
            subst hje
            obtain ⟨V, hV⟩ : ∃ V, V = wr := ⟨_, rfl⟩
            rw [← hV] at HJ ⊢
            have HLV : Hid (L4 W (tellsTo (ofG gs) ps k) gsl (.slice (some ⟨vb, 0, none⟩) k vc) V) := HTX.out.below (by rw [← HXQ.out]; exact HJ.out.2.2.1)
            have HRV : Hid (RowF V q (oneT v)) := by
              obtain ⟨⟨hrow, _⟩, _, _, hT⟩ := HJ.out
              rw [List.take_length, HLL.out, oneL_end] at hT
              rw [← hT]; exact hrow
            clear HJ hV
            go_wp2_with (first
              | (at_builtin; refine wpList_append_own _ rfl _ _ 117 rfl W.heap.size 88 i0 (.slice none 0 0) 1 24 Tryz.underlying117 hi hz0 hz1 hz2 rfl (by decide) _ _ _ rfl (HLV.out.ow.alloc _) ⟨V.heap.size, 0, none⟩ 1 1 [slV q] rfl rfl ?c1 ?c2 ?c3 ?c4 ?c5 ?_)
              | fail)
            case c1 =>
              intro j u hj
              match j, hj with
              | 0, hj => simp at hj; subst hj; simp [Addr.add, slV]
            case c2 => intro u hu; simp at hu; subst hu; rfl
            case c3 => rw [hkl]; unfold maxLen; omega
            case c4 => rw [hkl]; omega
            case c5 => have := HLV.out.bl.size; simp; omega
            intro v' w9 hown' hgrow hnil
            have hnn' : v' ≠ .slice none 0 0 := hnil
            have HN : Hid (L4 W (tellsTo (ofG gs) ps (k + 1)) (gsl ++ [q]) v' w9) := by rw [HE.out, HO.out]; exact HLV.out.next HRV.out hvq (by rw [hkl]; exact hown') hgrow hnn'
            clear hnil hown' hgrow hnn'
            go_wp2_with fail
            exact ⟨⟨k + 1, gsl ++ [q], by omega, by go_num, HN⟩, by simp [intOf]; omega⟩
      · have b1 : (x.k == 1) = false := by simp [ek]
        obtain ⟨l, r, hl, hr, hxl, hxr, hk23⟩ : ∃ l r : Nat, l < k ∧ r < k ∧ x.l = (l : Int) ∧ x.r = (r : Int) ∧ (x.k = 2 ∨ x.k = 3) := by
          unfold ptOne at h0
          by_cases qk : 1 ≤ x.k ∧ x.k ≤ 3
          · rw [if_neg (by omega), if_neg ek] at h0
            split at h0
            · cases h0
            · split at h0
              · cases h0
              · rename_i q1
                split at h0
                · cases h0
                · rename_i q2
                  exact ⟨x.l.toNat, x.r.toNat, by omega, by omega, by omega, by omega, by omega⟩
          · rw [if_pos qk] at h0; cases h0
        obtain ⟨L, hL⟩ : ∃ L, (tellsTo (ofG gs) ps k)[l]? = some L := ⟨_, List.getElem?_eq_getElem (by omega)⟩
        obtain ⟨R, hR⟩ : ∃ R, (tellsTo (ofG gs) ps k)[r]? = some R := ⟨_, List.getElem?_eq_getElem (by omega)⟩
        obtain ⟨ap, hap⟩ : ∃ ap, decide (x.k = 3) = ap := ⟨_, rfl⟩
        have HO : Hid (tellOne (ofG gs) (tellsTo (ofG gs) ps k) x = bothT ap L R) := by
          unfold tellOne
          rw [if_neg ek, hxl, hxr, Int.toNat_natCast, Int.toNat_natCast, hL, hR, hap]
          trivial
        have hk2 : (x.k == 2) = !ap := by
          rw [← hap]
          rcases hk23 with e | e <;> simp [e]
        obtain ⟨gl, cl, hrl, hgl1⟩ := HTX.out.at hL
        obtain ⟨gr', cr, hrr, hgr1⟩ := HTX.out.at hR
        have HK : Hid (∀ X' : World, Below q X X' → (X'.cell? ⟨P, 0, none⟩ = some (.int .i64 x.k) ∧ X'.cell? ⟨P, 3, none⟩ = some (.int .i64 x.l) ∧ X'.cell? ⟨P, 4, none⟩ = some (.int .i64 x.r)) ∧ (X'.cell? ⟨vb, l, none⟩ = some (.slice (some ⟨gl, 0, none⟩) 256 256) ∧ RowF X' gl L) ∧ X'.cell? ⟨vb, r, none⟩ = some (.slice (some ⟨gr', 0, none⟩) 256 256) ∧ RowF X' gr' R) := fun X' hb => by
          obtain ⟨q0, _, _, q3, q4⟩ := HPX0.out
          simp only [Nat.zero_add] at q0 q3 q4
          rw [HXQ.out] at hb
          have kk : ∀ (b o : Nat) (u : Value), X.cell? ⟨b, o, none⟩ = some u → X'.cell? ⟨b, o, none⟩ = some u := fun b o u e => (hb.cell (p := ⟨b, o, none⟩) (World.block_lt_of_cell? X ⟨b, o, none⟩ e)).trans e
          exact ⟨⟨kk _ _ _ q0, kk _ _ _ q3, kk _ _ _ q4⟩, ⟨kk _ _ _ cl, hrl.below hb⟩, kk _ _ _ cr, hrr.below hb⟩
        have hl' : (l : Int) < (k : Int) := by omega
        have hr' : (r : Int) < (k : Int) := by omega
        clear ek h0 hL hR hap hk23 cl hrl cr hrr hgl1 hgr1 p0 p1 p2 p3 p4 HPX HPX0 HTY HGY
        have HST0 : Hid ((RowF Y q noT ∧ ∀ j, Y.frozen? ⟨q, j, none⟩ = false) ∧ Below q X Y) := ⟨HRY.out, HYX.out⟩
        obtain ⟨y0, y3, y4⟩ := (HK.out Y HYX.out).1
        clear HRY HYX
        go_wp2_with fail
        clear y0 y3 y4
        go_loopw [12] (fun i wj => ∃ (c : Nat) (T : TS), c ≤ 256 ∧ i = .int .i64 (c : Int) ∧ Hid (((RowF wj q T ∧ ∀ j, wj.frozen? ⟨q, j, none⟩ = false) ∧ Below q X wj) ∧ Both ap L R c 0 T)) (fun i _ => 256 - (intOf i).toNat)
        case atStart => exact ⟨0, noT, by omega, rfl, HST0.out, both_start ap L R⟩
        case round =>
          obtain ⟨c, T, hc, rfl, HC⟩ := hrel
          by_cases hcl : c < 256
          · have hcl' : (c : Int) < 256 := by omega
            obtain ⟨V0, hV0⟩ : ∃ V0, V0 = wr := ⟨_, rfl⟩
            rw [← hV0] at HC ⊢
            clear hV0
            go_wp2_with fail
            go_loopw [13] (fun i wj => ∃ (d : Nat) (U : TS), d ≤ 256 ∧ i = .int .i64 (d : Int) ∧ Hid (((RowF wj q U ∧ ∀ j, wj.frozen? ⟨q, j, none⟩ = false) ∧ Below q X wj) ∧ Both ap L R c d U)) (fun i _ => 256 - (intOf i).toNat)
            case atStart => exact ⟨0, T, by omega, rfl, HC⟩
            case round =>
              obtain ⟨d, U, hd, rfl, HD⟩ := hrel
              obtain ⟨⟨y0, y3, y4⟩, ⟨yl, hlr⟩, yr, hrr⟩ := HK.out wr HD.out.1.2
              by_cases hdl : d < 256
              · have hdl' : (d : Int) < 256 := by omega
                have cL := hlr c hcl
                have cR := hrr d hdl
                obtain ⟨lv, hlv⟩ : ∃ lv, L c = lv := ⟨_, rfl⟩
                have HLc : Hid (L c = lv) := hlv
                rw [hlv] at cL
                clear hlv hlr hrr
                cases lv
                · have HN : Hid (((RowF wr q U ∧ ∀ j, wr.frozen? ⟨q, j, none⟩ = false) ∧ Below q X wr) ∧ Both ap L R (c + 1) 0 U) := ⟨HD.out.1, both_skip HD.out.2 HLc.out⟩
                  go_wp2_with fail
                  exact ⟨⟨c + 1, U, by omega, by go_num, HN⟩, by simp [intOf]; omega⟩
                · obtain ⟨rv, hrv⟩ : ∃ rv, R d = rv := ⟨_, rfl⟩
                  rw [hrv] at cR
                  have hand : bits .and .i64 (c : Int) (d : Int) = ((c &&& d : Nat) : Int) := and_nat c d hcl hdl
                  have hor : bits .or .i64 (c : Int) (d : Int) = ((c ||| d : Nat) : Int) := or_nat c d hcl hdl
                  have hx256 : c ||| d < 256 := Nat.or_lt_two_pow (n := 8) hcl hdl
                  obtain ⟨qb, hqb⟩ : ∃ qb, ((c &&& d) != 0) = qb := ⟨_, rfl⟩
                  have hqb' : ((((c &&& d : Nat) : Int)) == 0) = !qb := by rw [← hqb]; rw [Bool.eq_iff_iff]; simp
                  have hok : okAB ap c d = !(ap && qb) := by unfold okAB; rw [hqb]
                  have hn0 : (R d && okAB ap c d) = (rv && !(ap && qb)) := by rw [hrv, hok]
                  have HN0 : Hid ((R d && okAB ap c d) = (rv && !(ap && qb))) := hn0
                  obtain ⟨xx, hxx⟩ : ∃ xx, xx = c ||| d := ⟨_, rfl⟩
                  have HXX : Hid (xx = c ||| d) := hxx
                  rw [← hxx] at hor hx256
                  have hx' : (xx : Int) < 256 := by omega
                  have cx : wr.cell? ⟨q, xx, none⟩ = some (.bool (U xx)) := HD.out.1.1.1 xx hx256
                  have fx := HD.out.1.1.2 xx
                  have HPut : Hid ((rv && !(ap && qb)) = true → ((RowF (wr.setCell ⟨q, xx, none⟩ (.bool true)) q (putT U xx) ∧ ∀ j, (wr.setCell ⟨q, xx, none⟩ (.bool true)).frozen? ⟨q, j, none⟩ = false) ∧ Below q X (wr.setCell ⟨q, xx, none⟩ (.bool true))) ∧ Both ap L R c (d + 1) (putT U xx)) := fun e =>
                    ⟨⟨⟨HD.out.1.1.1.put hx256, fun j => by rw [World.frozen?_setCell]; exact HD.out.1.1.2 j⟩, HD.out.1.2.setCell (p := ⟨q, xx, none⟩) (Nat.le_refl _) _⟩, by rw [HXX.out]; exact both_put HD.out.2 hcl hdl HLc.out (HN0.out.trans e)⟩
                  have HNo : Hid ((rv && !(ap && qb)) = false → ((RowF wr q U ∧ ∀ j, wr.frozen? ⟨q, j, none⟩ = false) ∧ Below q X wr) ∧ Both ap L R c (d + 1) U) := fun e => ⟨HD.out.1, both_no HD.out.2 (HN0.out.trans e)⟩
                  generalize hyy : ((c &&& d : Nat) : Int) = yy at hand hqb'
                  clear hyy hrv hqb hok hn0 hxx HXX HN0 HD
                  cases rv
                  · have HN := HNo.out (by simp)
                    have HN' : Hid _ := HN
                    clear HN HPut HNo
                    go_wp2_with fail
                    exact ⟨⟨d + 1, U, by omega, by go_num, HN'⟩, by simp [intOf]; omega⟩
                  · cases ap
                    · have HN := HPut.out (by simp)
                      have HN' : Hid _ := HN
                      clear HN HPut HNo
                      go_wp2_with fail
                      exact ⟨⟨d + 1, putT U xx, by omega, by go_num, HN'⟩, by simp [intOf]; omega⟩
                    · cases qb
                      · have HN := HPut.out (by simp)
                        have HN' : Hid _ := HN
                        clear HN HPut HNo
                        go_wp2_with fail
                        exact ⟨⟨d + 1, putT U xx, by omega, by go_num, HN'⟩, by simp [intOf]; omega⟩
                      · have HN := HNo.out (by simp)
                        have HN' : Hid _ := HN
                        clear HN HPut HNo
                        go_wp2_with fail
                        exact ⟨⟨d + 1, U, by omega, by go_num, HN'⟩, by simp [intOf]; omega⟩
              · have hde : d = 256 := by omega
                subst hde
                have HN : Hid (((RowF wr q U ∧ ∀ j, wr.frozen? ⟨q, j, none⟩ = false) ∧ Below q X wr) ∧ Both ap L R (c + 1) 0 U) := ⟨HD.out.1, both_next HD.out.2⟩
                clear hlr hrr
                go_wp2_with fail
                exact ⟨⟨c + 1, U, by omega, by go_num, HN⟩, by simp [intOf]; omega⟩
          · have hce : c = 256 := by omega
            subst hce
            obtain ⟨V, hV⟩ : ∃ V, V = wr := ⟨_, rfl⟩
            rw [← hV] at HC ⊢
            have HLV : Hid (L4 W (tellsTo (ofG gs) ps k) gsl (.slice (some ⟨vb, 0, none⟩) k vc) V) := HTX.out.below (by rw [← HXQ.out]; exact HC.out.1.2)
            have HRV : Hid (RowF V q (bothT ap L R)) := HC.out.1.1.1.ext (both_end HC.out.2)
            clear HC hV
            go_wp2_with (first
              | (at_builtin; refine wpList_append_own _ rfl _ _ 117 rfl W.heap.size 88 i0 (.slice none 0 0) 1 24 Tryz.underlying117 hi hz0 hz1 hz2 rfl (by decide) _ _ _ rfl (HLV.out.ow.alloc _) ⟨V.heap.size, 0, none⟩ 1 1 [slV q] rfl rfl ?c1 ?c2 ?c3 ?c4 ?c5 ?_)
              | fail)
            case c1 =>
              intro j u hj
              match j, hj with
              | 0, hj => simp at hj; subst hj; simp [Addr.add, slV]
            case c2 => intro u hu; simp at hu; subst hu; rfl
            case c3 => rw [hkl]; unfold maxLen; omega
            case c4 => rw [hkl]; omega
            case c5 => have := HLV.out.bl.size; simp; omega
            intro v' w9 hown' hgrow hnil
            have hnn' : v' ≠ .slice none 0 0 := hnil
            have HN : Hid (L4 W (tellsTo (ofG gs) ps (k + 1)) (gsl ++ [q]) v' w9) := by rw [HE.out, HO.out]; exact HLV.out.next HRV.out hvq (by rw [hkl]; exact hown') hgrow hnn'
            clear hnil hown' hgrow hnn'
            go_wp2_with fail
            exact ⟨⟨k + 1, gsl ++ [q], by omega, by go_num, HN⟩, by simp [intOf]; omega⟩
    · have hke : k = m := by omega
      subst hke
      have hlast : (tellsTo (ofG gs) ps k)[k - 1]? = some (tellsL (ofG gs) ps) := by
        unfold tellsL
        rw [HPW.out.1, List.getElem?_eq_getElem (by omega)]; rfl
      obtain ⟨gl, cl, hrl, _⟩ := HT.out.at hlast
      have HRL : Hid (RowF wr gl (tellsL (ofG gs) ps)) := hrl
      have HBF : Hid (Below w.heap.size w wr) := hbW.trans (HT.out.bl.mono hbW.size)
      have hkm : ((k : Int) - 1) = ((k - 1 : Nat) : Int) := by omega
      have hk1 : (((k - 1 : Nat) : Nat) : Int) < (k : Int) := by omega
      obtain ⟨k1, hk1e⟩ : ∃ k1, k1 = k - 1 := ⟨_, rfl⟩
      rw [← hk1e] at cl hkm hk1
      clear hrl hlast hk1e
      go_wp2_with fail
      go_ret
      exact ⟨gl, rfl, HRL.out, HBF.out⟩

end Go.Proofs.YtaeigimgobilaaaGreatDoor

namespace Go.Proofs.YtaeigimgobilaaaGreatDoor
open Go.RowKit

def setIn (s : Int) : Bool := decide (0 ≤ s) && decide (s ≤ 255)

/-- The grant ahead stands ahead. -/
def prevB (gs : List GrI) (k : Nat) (x : GrI) : Bool := match k with
  | 0 => true
  | j + 1 => match gs[j]? with | some y => ltR y.1 x.1 | none => true

def gfOne (gs : List GrI) (k : Nat) (x : GrI) : Int := if roleB x.1.1 x.1.2 = false then 3 else if setIn x.2 = false then 3 else if x.2 = 0 then 1 else if prevB gs k x = false then 1 else 0

def gfTo (gs : List GrI) : Nat → Int
  | 0 => 0
  | k + 1 => if gfTo gs k ≠ 0 then gfTo gs k else match gs[k]? with
    | none => 0
    | some x => gfOne gs k x

def gfCode (gs : List GrI) : Int := if 40 < gs.length then 2 else gfTo gs gs.length

theorem gfTo_stay (gs : List GrI) (k m : Nat) (c : Int) (hc : c ≠ 0) (h : gfTo gs k = c) (hm : k ≤ m) : gfTo gs m = c := by
  induction m with
  | zero => obtain rfl : k = 0 := by omega
            exact h
  | succ m ih =>
    by_cases e : k = m + 1
    · subst e; exact h
    · have := ih (by omega)
      simp only [gfTo, this]
      rw [if_pos hc]

theorem gfTo_next {gs : List GrI} {k : Nat} {x : GrI} (hk : gs[k]? = some x) (h0 : gfTo gs k = 0) : gfTo gs (k + 1) = gfOne gs k x := by
  simp [gfTo, h0, hk]

theorem gfOne_zero {gs : List GrI} {k : Nat} {x : GrI} : gfOne gs k x = 0 ↔ roleB x.1.1 x.1.2 = true ∧ (1 ≤ x.2 ∧ x.2 ≤ 255) ∧ prevB gs k x = true := by
  unfold gfOne setIn
  cases h1 : roleB x.1.1 x.1.2 <;> cases h2 : prevB gs k x <;> simp
  · intro h3
    split at h3 <;> cases h3
  · constructor
    · intro h
      split at h
      · cases h
      · rename_i q
        split at h
        · cases h
        · simp at q; omega
    · intro h
      rw [if_neg (by simp; omega), if_neg (by omega)]

theorem gf_take {gs : List GrI} : ∀ k, k ≤ gs.length → gfTo gs k = 0 → SG (gs.take k)
  | 0, _, _ => by simpa using sg_nil
  | k + 1, hk, h => by
    have h0 : gfTo gs k = 0 := by
      by_cases q : gfTo gs k = 0
      · exact q
      · exact absurd (gfTo_stay gs k (k + 1) _ q rfl (by omega)) (by rw [h]; exact fun e => q e.symm)
    have hx : gs[k]? = some gs[k] := List.getElem?_eq_getElem (by omega)
    rw [gfTo_next hx h0] at h
    obtain ⟨h1, h2, h3⟩ := gfOne_zero.1 h
    have i := gf_take k (by omega) h0
    rw [List.take_succ_eq_append_getElem (by omega)]
    refine ⟨List.pairwise_append.2 ⟨i.up, by simp, fun a ha b hb => ?_⟩, fun x hx => ?_, fun x hx => ?_⟩
    · simp at hb
      rw [hb]
      obtain ⟨j, hj⟩ := List.mem_iff_getElem?.1 ha
      have hjk : j < k := by
        by_cases q : j < k
        · exact q
        · rw [List.getElem?_eq_none (by simp; omega)] at hj; cases hj
      match k, hk, hx, h3, i, ha, hj, hjk with
      | m + 1, hk, hx, h3, i, ha, hj, hjk =>
        have hy : gs[m]? = some gs[m] := List.getElem?_eq_getElem (by omega)
        simp only [prevB, hy] at h3
        by_cases e : j = m
        · subst e
          rw [List.getElem?_take, if_pos (by omega), hy] at hj
          rw [← Option.some.inj hj]
          exact h3
        · have hp := List.pairwise_iff_getElem.1 i.up j m (by simp; omega) (by simp; omega) (by omega)
          rw [List.getElem_take, List.getElem_take] at hp
          rw [List.getElem?_take, if_pos (by omega), List.getElem?_eq_getElem (by omega)] at hj
          rw [← Option.some.inj hj]
          exact ltR_trans hp h3
    · rcases List.mem_append.1 hx with q | q
      · exact i.ro x q
      · simp at q; rw [q]; exact h1
    · rcases List.mem_append.1 hx with q | q
      · exact i.st x q
      · simp at q; rw [q]; exact h2

theorem gf_sg {gs : List GrI} (h : gfCode gs = 0) : SG gs := by
  unfold gfCode at h
  split at h
  · cases h
  · have := gf_take gs.length (Nat.le_refl _) h
    rwa [List.take_length] at this

theorem sg_gf {gs : List GrI} (h : SG gs) : gfCode gs = 0 := by
  have hl := sg_len h
  unfold gfCode
  rw [if_neg (by omega)]
  have key : ∀ k, k ≤ gs.length → gfTo gs k = 0 := by
    intro k
    induction k with
    | zero => intro _; rfl
    | succ k ih =>
      intro hk
      have hx : gs[k]? = some gs[k] := List.getElem?_eq_getElem (by omega)
      rw [gfTo_next hx (ih (by omega))]
      refine gfOne_zero.2 ⟨h.ro _ (List.getElem_mem _), h.st _ (List.getElem_mem _), ?_⟩
      match k, hk, hx with
      | 0, _, _ => rfl
      | j + 1, hk, _ =>
        simp only [prevB, List.getElem?_eq_getElem (show j < gs.length by omega)]
        exact List.pairwise_iff_getElem.1 h.up j (j + 1) (by omega) (by omega) (by omega)
  exact key _ (Nat.le_refl _)

theorem prevB_of {gs : List GrI} {j : Nat} {y : GrI} (h : gs[j]? = some y) (x : GrI) : prevB gs (j + 1) x = ltR y.1 x.1 := by simp [prevB, h]

end Go.Proofs.YtaeigimgobilaaaGreatDoor

namespace Go.Proofs.YtaeigimgobilaaaGreatDoor
open Go.RowKit Go.Sort
set_option linter.unusedVariables false
set_option linter.unusedSimpArgs false

set_option maxHeartbeats 400000 in
theorem setFault_c (s : Int) (w : World) : Calls Tryz.prog 33 #[.int .i64 s] w fun e w' => e = .returned (.int .i64 (if setIn s = true then 0 else 3)) ∧ w = w' := by
  by_cases h0 : 0 ≤ s
  · by_cases h1 : s ≤ 255
    · have h2 : s < (256 : Int) := by omega
      rw [show (if setIn s = true then (0 : Int) else 3) = 0 by simp [setIn, h0, h1]]
      go_enter Tryz.func33, Tryz.ntmps33
      go_wp2
      go_ret
      exact ⟨rfl, rfl⟩
    · have h2 : (256 : Int) ≤ s := by omega
      rw [show (if setIn s = true then (0 : Int) else 3) = 3 by simp [setIn, h1]]
      go_enter Tryz.func33, Tryz.ntmps33
      go_wp2
      go_ret
      exact ⟨rfl, rfl⟩
  · have h2 : s < (0 : Int) := by omega
    rw [show (if setIn s = true then (0 : Int) else 3) = 3 by simp [setIn, h0]]
    go_enter Tryz.func33, Tryz.ntmps33
    go_wp2
    go_ret
    exact ⟨rfl, rfl⟩

theorem below_growD (w : World) (q : Nat) (os : Array Obj) : Below w.heap.size w (grow (w.drewN q) os) :=
  ⟨rfl, rfl, rfl, by simp [grow, World.drewN], fun i hi => by simp [grow, World.drewN, Array.getElem?_append_left hi]⟩

end Go.Proofs.YtaeigimgobilaaaGreatDoor

namespace Go.Proofs.YtaeigimgobilaaaGreatDoor
open Go.RowKit
set_option linter.unusedVariables false
set_option linter.unusedSimpArgs false

set_option maxHeartbeats 400000 in
theorem l1Set_c (s : Int) (w : World) : Calls Tryz.prog 54 #[.int .i64 s] w fun e w' => e = .returned (.bool (setIn s)) ∧ w = w' := by
  unfold setIn
  cases h0 : decide (0 ≤ s)
  · go_enter Tryz.func54, Tryz.ntmps54
    go_wp2
    go_ret
    exact ⟨by simp, rfl⟩
  · have h0' := of_decide_eq_true h0
    cases h1 : decide (s ≤ 255)
    all_goals
      go_enter Tryz.func54, Tryz.ntmps54
      go_wp2
      go_ret
      exact ⟨by simp, rfl⟩

end Go.Proofs.YtaeigimgobilaaaGreatDoor

namespace Go.Proofs.YtaeigimgobilaaaGreatDoor
open Go.RowKit
set_option linter.unusedVariables false
set_option linter.unusedSimpArgs false

def manyCode (zs : List RuleI) (ps : List PartI) : Int := orC (polCode zs) (ptCode ps)

theorem many_zero {zs : List RuleI} {ps : List PartI} (h : manyCode zs ps = 0) : polCode zs = 0 ∧ ptCode ps = 0 := by
  unfold manyCode orC at h
  split at h
  · rename_i q; exact ⟨q, h⟩
  · rename_i q; exact absurd h q

set_option maxRecDepth 100000 in
set_option maxHeartbeats 2000000 in
theorem implMany_c (a : Option Addr) (n cap : Nat) (zs : List RuleI) (a' : Option Addr) (m cap' : Nat) (ps : List PartI) (w : World) (hn : n ≤ 1048576) (hm : m ≤ 1048576) (hcap : n ≤ cap) (hcm : cap ≤ maxLen) (h : RulesIn w a n zs) (h' : PartsIn w a' m ps) :
    Calls Tryz.prog 32 #[.slice a n cap, .slice a' m cap'] w fun e w' => e = .returned (.int .i64 (manyCode zs ps)) ∧ Below w.heap.size w w' := by
  have HP : Hid (∀ w2 : World, Below w.heap.size w w2 → Calls Tryz.prog 60 #[.slice a n cap] w2 fun e w' => e = .returned (.int .i64 (polCode zs)) ∧ Below w2.heap.size w2 w') := fun w2 q => implPolicyFault_c a n cap zs w2 hn hcap hcm (h.below q)
  have HQ : Hid (∀ w2 : World, Below w.heap.size w w2 → Calls Tryz.prog 63 #[.slice a' m cap'] w2 fun e w' => e = .returned (.int .i64 (ptCode ps)) ∧ Below w2.heap.size w2 w') := fun w2 q => implPartsFault_c a' m cap' ps w2 (by unfold maxLen; omega) (h'.below q)
  unfold manyCode
  generalize polCode zs = p at HP
  generalize ptCode ps = q at HQ
  clear h h'
  go_enter Tryz.func32, Tryz.ntmps32
  go_wp2_with fail
  refine (HP.out _ (Below.refl _ _)).mono ?_
  rintro e w1 ⟨rfl, hb1⟩
  go_wp2_with fail
  refine (HQ.out _ hb1).mono ?_
  rintro e w2 ⟨rfl, hb2'⟩
  have hb2 : Below w.heap.size w w2 := hb1.trans (hb2'.mono hb1.size)
  have hb3 : Below w.heap.size w (w2.alloc (.cells #[.int .i64 p, .int .i64 q] 2)) := hb2.alloc hb2.size _
  go_wp2_with (first | (go_at_call 59; refine (or64_c _ p q _ ?_ ?_).mono ?_; (· simp [go_sem]); (· simp [go_sem]); rintro e w' ⟨rfl, rfl⟩) | fail)
  go_ret
  exact ⟨rfl, hb3⟩

set_option maxRecDepth 100000 in
set_option maxHeartbeats 2000000 in
theorem specAsked_c (a : Option Addr) (n cap : Nat) (zs : List RuleI) (a' : Option Addr) (m cap' : Nat) (ps : List PartI) (w : World) (hn : n ≤ 1048576) (hm : m ≤ 1048576) (h : RulesIn w a n zs) (h' : PartsIn w a' m ps) :
    Calls Tryz.prog 45 #[.slice a n cap, .slice a' m cap'] w fun e w' => e = .returned (.int .i64 (manyCode zs ps)) ∧ Below w.heap.size w w' := by
  have HP : Hid (∀ w2 : World, Below w.heap.size w w2 → Calls Tryz.prog 42 #[.slice a n cap] w2 fun e w' => e = .returned (.int .i64 (polCode zs)) ∧ Below w2.heap.size w2 w') := fun w2 q => l2Fault_c a n cap zs w2 hn (h.below q)
  have HQ : Hid (∀ w2 : World, Below w.heap.size w w2 → Calls Tryz.prog 43 #[.slice a' m cap'] w2 fun e w' => e = .returned (.int .i64 (ptCode ps)) ∧ Below w2.heap.size w2 w') := fun w2 q => l4Fault_c a' m cap' ps w2 (by unfold maxLen; omega) (h'.below q)
  unfold manyCode
  generalize polCode zs = p at HP
  generalize ptCode ps = q at HQ
  clear h h'
  by_cases hp : p = 0
  · have e : orC p q = q := by simp [orC, hp]
    have hpb : (p != 0) = false := by simp [hp]
    rw [e]
    clear hp e
    go_enter Tryz.func45, Tryz.ntmps45
    go_wp2_with fail
    refine (HP.out _ (Below.refl _ _)).mono ?_
    rintro e w1 ⟨rfl, hb1⟩
    go_wp2_with fail
    refine (HQ.out _ hb1).mono ?_
    rintro e w2 ⟨rfl, hb2⟩
    go_wp2_with fail
    go_ret
    exact ⟨rfl, hb1.trans (hb2.mono hb1.size)⟩
  · have e : orC p q = p := by simp [orC, hp]
    have hpb : (p != 0) = true := by simp [hp]
    rw [e]
    clear hp e
    go_enter Tryz.func45, Tryz.ntmps45
    go_wp2_with fail
    refine (HP.out _ (Below.refl _ _)).mono ?_
    rintro e w1 ⟨rfl, hb1⟩
    go_wp2_with fail
    go_ret
    exact ⟨rfl, hb1⟩

theorem index_told (cT : Array Value) (x : Nat) (v : Value) (hx : x < 256) (hs : cT.size = 256) (hc : cT[x]? = some v) (hv : v.oneCell' = true) (w : World) : (Instr.index 75 (.agg cT) (.int .i64 (x : Int))).run Tryz.prog w = .ok v w := by
  have h1 : (0 : Int) ≤ (x : Int) := by omega
  have h2 : (x : Int) < 256 := by omega
  simp [Instr.index, run_underlying ts_under, go_sem, h1, h2, hs, hc]
  intro h; omega

def GivesA (f : Nat) (a : Option Addr) (n cap : Nat) (a' : Option Addr) (m cap' : Nat) (s : Int) (t : Bool) (w : World) : Prop := Calls Tryz.prog f #[.slice a n cap, .slice a' m cap', .int .i64 s] w fun e w' => e = .returned (.bool t) ∧ Below w.heap.size w w'

/-- Is a set admitted? -/
def admB (zs : List RuleI) (ps : List PartI) (gs : List GrI) (s : Int) : Bool := decide (manyCode zs ps = 0) && setIn s && tellsL (ofG gs) ps s.toNat

set_option maxRecDepth 100000 in
set_option maxHeartbeats 2000000 in
theorem implAdmits_c (a : Option Addr) (n cap : Nat) (zs : List RuleI) (a' : Option Addr) (m cap' : Nat) (ps : List PartI) (gs : List GrI) (s : Int) (w : World) (hn : n ≤ 1048576) (hm : m ≤ 1048576) (hcap : n ≤ cap) (hcm : cap ≤ maxLen) (h : RulesIn w a n zs) (h' : PartsIn w a' m ps) (hg : polCode zs = 0 → AllG zs gs) :
    GivesA 14 a n cap a' m cap' s (admB zs ps gs s) w := by
  have HM : Hid (Calls Tryz.prog 32 #[.slice a n cap, .slice a' m cap'] w fun e w' => e = .returned (.int .i64 (manyCode zs ps)) ∧ Below w.heap.size w w') := implMany_c a n cap zs a' m cap' ps w hn hm hcap hcm h h'
  have HT : Hid (manyCode zs ps = 0 → ∀ w2 : World, Below w.heap.size w w2 → Calls Tryz.prog 34 #[.slice a n cap, .slice a' m cap'] w2 fun e w' => e = .returned (.agg (arrT (tellsL (ofG gs) ps))) ∧ Below w2.heap.size w2 w') := fun hc w2 q => toldBy_c a n cap zs a' m cap' ps gs w2 (h.below q) (many_zero hc).1 (hg (many_zero hc).1) (h'.below q) (many_zero hc).2
  clear h h' hg
  unfold admB
  generalize manyCode zs ps = c at HM HT
  generalize tellsL (ofG gs) ps = T at HT
  unfold GivesA
  by_cases hc : c = 0
  · have hcb : (c == 0) = true := by simp [hc]
    rw [show decide (c = 0) = true from decide_eq_true hc, Bool.true_and]
    cases hs : setIn s
    · have hf : (if setIn s = true then (0 : Int) else 3) = 3 := by simp [hs]
      rw [Bool.false_and]
      clear hc
      go_enter Tryz.func14, Tryz.ntmps14
      go_wp2_with fail
      refine (HM.out).mono ?_
      rintro e w1 ⟨rfl, hb1⟩
      go_wp2_with (first | (go_at_call 33; refine (setFault_c s _).mono ?_; rintro e w2 ⟨rfl, rfl⟩; rw [hf]) | fail)
      go_ret
      exact ⟨rfl, hb1⟩
    · have hf : (if setIn s = true then (0 : Int) else 3) = 0 := by simp [hs]
      rw [Bool.true_and]
      obtain ⟨x, rfl⟩ : ∃ x : Nat, s = (x : Int) := ⟨s.toNat, by simp [setIn] at hs; omega⟩
      have hx : x < 256 := by simp [setIn] at hs; omega
      have hx' : (x : Int) < 256 := by omega
      rw [Int.toNat_natCast]
      have HT2 : Hid _ := HT.out hc
      have cx := arrT_at T hx
      have csz := arrT_size T
      generalize arrT T = cT at HT2 cx csz
      clear hc hs
      go_enter Tryz.func14, Tryz.ntmps14
      go_wp2_with fail
      refine (HM.out).mono ?_
      rintro e w1 ⟨rfl, hb1⟩
      go_wp2_with (first | (go_at_call 33; refine (setFault_c _ _).mono ?_; rintro e w2 ⟨rfl, rfl⟩; rw [hf]) | fail)
      refine (HT2.out _ hb1).mono ?_
      rintro e w3 ⟨rfl, hb3⟩
      have hix := index_told cT x _ hx csz cx rfl w3
      go_wp2_with fail
      go_ret
      exact ⟨rfl, hb1.trans (hb3.mono hb1.size)⟩
  · have hcb : (c == 0) = false := by simp [hc]
    rw [show decide (c = 0) = false from decide_eq_false hc, Bool.false_and, Bool.false_and]
    clear hc
    go_enter Tryz.func14, Tryz.ntmps14
    go_wp2_with fail
    refine (HM.out).mono ?_
    rintro e w1 ⟨rfl, hb1⟩
    go_wp2_with fail
    go_ret
    exact ⟨rfl, hb1⟩

end Go.Proofs.YtaeigimgobilaaaGreatDoor
