/-
  PLAIN WORDS on the fault of grants. No Go text is walked here.
  Conditions: each fact bears its own.
  CONTRACT: impl.GrantFault.
  Conditions: each contract bears its own.
  CONTRACT: spec.l3Fault.
  Conditions: each contract bears its own.
  CONTRACTS: the codes of forms; Admits of both programs.
  Conditions: each contract bears its own.
-/
import Derived.Test.YtnfolmjdicfobaaGreatDoorPl12
import Derived.Test.YtnfolmjdicfobaaGreatDoorPl07
import Derived.Test.YtnfolmjdicfobaaGreatDoorPl01
import Derived.Test.YtnfolmjdicfobaaGreatDoorPl19
import Derived.WalkSmall
import Derived.BigQuiet
import Derived.Deep.QuietTactic
import Derived.Deep.RegionHeld3
import Derived.Test.YtnfolmjdicfobaaGreatDoorPl21
import Derived.Test.YtnfolmjdicfobaaGreatDoorPl23
namespace Go.Proofs.YtnfolmjdicfobaaGreatDoor
open Go.RowKit

def setIn (s : Int) : Bool := decide (0 ≤ s) && decide (s ≤ 255)

/-- The grant ahead stands ahead. -/
def prevB (gs : List GrI) (k : Nat) (x : GrI) : Bool := match k with
  | 0 => true
  | j + 1 => match gs[j]? with | some y => ltR y.1 x.1 | none => true

def gfOne (gs : List GrI) (k : Nat) (x : GrI) : Int := if roleB x.1.1 x.1.2 = false then 3 else if setIn x.2 = false then 3 else if x.2 = 0 then 1 else if prevB gs k x = false then 1 else 0

def gfTo (gs : List GrI) : Nat → Int
  | 0 => 0
  | k + 1 => if gfTo gs k ≠ 0 then gfTo gs k else match gs[k]? with
    | none => 0
    | some x => gfOne gs k x

def gfCode (gs : List GrI) : Int := if 40 < gs.length then 2 else gfTo gs gs.length

theorem gfTo_stay (gs : List GrI) (k m : Nat) (c : Int) (hc : c ≠ 0) (h : gfTo gs k = c) (hm : k ≤ m) : gfTo gs m = c := by
  induction m with
  | zero => obtain rfl : k = 0 := by omega
            exact h
  | succ m ih =>
    by_cases e : k = m + 1
    · subst e; exact h
    · have := ih (by omega)
      simp only [gfTo, this]
      rw [if_pos hc]

theorem gfTo_next {gs : List GrI} {k : Nat} {x : GrI} (hk : gs[k]? = some x) (h0 : gfTo gs k = 0) : gfTo gs (k + 1) = gfOne gs k x := by
  simp [gfTo, h0, hk]

theorem gfOne_zero {gs : List GrI} {k : Nat} {x : GrI} : gfOne gs k x = 0 ↔ roleB x.1.1 x.1.2 = true ∧ (1 ≤ x.2 ∧ x.2 ≤ 255) ∧ prevB gs k x = true := by
  unfold gfOne setIn
  cases h1 : roleB x.1.1 x.1.2 <;> cases h2 : prevB gs k x <;> simp
  · intro h3
    split at h3 <;> cases h3
  · constructor
    · intro h
      split at h
      · cases h
      · rename_i q
        split at h
        · cases h
        · simp at q; omega
    · intro h
      rw [if_neg (by simp; omega), if_neg (by omega)]

theorem gf_take {gs : List GrI} : ∀ k, k ≤ gs.length → gfTo gs k = 0 → SG (gs.take k)
  | 0, _, _ => by simpa using sg_nil
  | k + 1, hk, h => by
    have h0 : gfTo gs k = 0 := by
      by_cases q : gfTo gs k = 0
      · exact q
      · exact absurd (gfTo_stay gs k (k + 1) _ q rfl (by omega)) (by rw [h]; exact fun e => q e.symm)
    have hx : gs[k]? = some gs[k] := List.getElem?_eq_getElem (by omega)
    rw [gfTo_next hx h0] at h
    obtain ⟨h1, h2, h3⟩ := gfOne_zero.1 h
    have i := gf_take k (by omega) h0
    rw [List.take_succ_eq_append_getElem (by omega)]
    refine ⟨List.pairwise_append.2 ⟨i.up, by simp, fun a ha b hb => ?_⟩, fun x hx => ?_, fun x hx => ?_⟩
    · simp at hb
      rw [hb]
      obtain ⟨j, hj⟩ := List.mem_iff_getElem?.1 ha
      have hjk : j < k := by
        by_cases q : j < k
        · exact q
        · rw [List.getElem?_eq_none (by simp; omega)] at hj; cases hj
      match k, hk, hx, h3, i, ha, hj, hjk with
      | m + 1, hk, hx, h3, i, ha, hj, hjk =>
        have hy : gs[m]? = some gs[m] := List.getElem?_eq_getElem (by omega)
        simp only [prevB, hy] at h3
        by_cases e : j = m
        · subst e
          rw [List.getElem?_take, if_pos (by omega), hy] at hj
          rw [← Option.some.inj hj]
          exact h3
        · have hp := List.pairwise_iff_getElem.1 i.up j m (by simp; omega) (by simp; omega) (by omega)
          rw [List.getElem_take, List.getElem_take] at hp
          rw [List.getElem?_take, if_pos (by omega), List.getElem?_eq_getElem (by omega)] at hj
          rw [← Option.some.inj hj]
          exact ltR_trans hp h3
    · rcases List.mem_append.1 hx with q | q
      · exact i.ro x q
      · simp at q; rw [q]; exact h1
    · rcases List.mem_append.1 hx with q | q
      · exact i.st x q
      · simp at q; rw [q]; exact h2

theorem gf_sg {gs : List GrI} (h : gfCode gs = 0) : SG gs := by
  unfold gfCode at h
  split at h
  · cases h
  · have := gf_take gs.length (Nat.le_refl _) h
    rwa [List.take_length] at this

theorem sg_gf {gs : List GrI} (h : SG gs) : gfCode gs = 0 := by
  have hl := sg_len h
  unfold gfCode
  rw [if_neg (by omega)]
  have key : ∀ k, k ≤ gs.length → gfTo gs k = 0 := by
    intro k
    induction k with
    | zero => intro _; rfl
    | succ k ih =>
      intro hk
      have hx : gs[k]? = some gs[k] := List.getElem?_eq_getElem (by omega)
      rw [gfTo_next hx (ih (by omega))]
      refine gfOne_zero.2 ⟨h.ro _ (List.getElem_mem _), h.st _ (List.getElem_mem _), ?_⟩
      match k, hk, hx with
      | 0, _, _ => rfl
      | j + 1, hk, _ =>
        simp only [prevB, List.getElem?_eq_getElem (show j < gs.length by omega)]
        exact List.pairwise_iff_getElem.1 h.up j (j + 1) (by omega) (by omega) (by omega)
  exact key _ (Nat.le_refl _)

theorem prevB_of {gs : List GrI} {j : Nat} {y : GrI} (h : gs[j]? = some y) (x : GrI) : prevB gs (j + 1) x = ltR y.1 x.1 := by simp [prevB, h]

end Go.Proofs.YtnfolmjdicfobaaGreatDoor

namespace Go.Proofs.YtnfolmjdicfobaaGreatDoor
open Go.RowKit Go.Sort
set_option linter.unusedVariables false
set_option linter.unusedSimpArgs false

set_option maxHeartbeats 400000 in
theorem setFault_c (s : Int) (w : World) : Calls Tryz.prog 45 #[.int .i64 s] w fun e w' => e = .returned (.int .i64 (if setIn s = true then 0 else 3)) ∧ w = w' := by
  by_cases h0 : 0 ≤ s
  · by_cases h1 : s ≤ 255
    · have h2 : s < (256 : Int) := by omega
      rw [show (if setIn s = true then (0 : Int) else 3) = 0 by simp [setIn, h0, h1]]
      go_enter Tryz.func45, Tryz.ntmps45
      go_wp2
      go_ret
      exact ⟨rfl, rfl⟩
    · have h2 : (256 : Int) ≤ s := by omega
      rw [show (if setIn s = true then (0 : Int) else 3) = 3 by simp [setIn, h1]]
      go_enter Tryz.func45, Tryz.ntmps45
      go_wp2
      go_ret
      exact ⟨rfl, rfl⟩
  · have h2 : s < (0 : Int) := by omega
    rw [show (if setIn s = true then (0 : Int) else 3) = 3 by simp [setIn, h0]]
    go_enter Tryz.func45, Tryz.ntmps45
    go_wp2
    go_ret
    exact ⟨rfl, rfl⟩

theorem below_growD (w : World) (q : Nat) (os : Array Obj) : Below w.heap.size w (grow (w.drewN q) os) :=
  ⟨rfl, rfl, rfl, by simp [grow, World.drewN], fun i hi => by simp [grow, World.drewN, Array.getElem?_append_left hi]⟩

end Go.Proofs.YtnfolmjdicfobaaGreatDoor

namespace Go.Proofs.YtnfolmjdicfobaaGreatDoor
open Go.RowKit
set_option linter.unusedVariables false
set_option linter.unusedSimpArgs false

set_option maxHeartbeats 400000 in
theorem l1Set_c (s : Int) (w : World) : Calls Tryz.prog 81 #[.int .i64 s] w fun e w' => e = .returned (.bool (setIn s)) ∧ w = w' := by
  unfold setIn
  cases h0 : decide (0 ≤ s)
  · go_enter Tryz.func81, Tryz.ntmps81
    go_wp2
    go_ret
    exact ⟨by simp, rfl⟩
  · have h0' := of_decide_eq_true h0
    cases h1 : decide (s ≤ 255)
    all_goals
      go_enter Tryz.func81, Tryz.ntmps81
      go_wp2
      go_ret
      exact ⟨by simp, rfl⟩

end Go.Proofs.YtnfolmjdicfobaaGreatDoor

namespace Go.Proofs.YtnfolmjdicfobaaGreatDoor
open Go.RowKit
set_option linter.unusedVariables false
set_option linter.unusedSimpArgs false

def manyCode (zs : List RuleI) (ps : List PartI) : Int := orC (polCode zs) (ptCode ps)

theorem many_zero {zs : List RuleI} {ps : List PartI} (h : manyCode zs ps = 0) : polCode zs = 0 ∧ ptCode ps = 0 := by
  unfold manyCode orC at h
  split at h
  · rename_i q; exact ⟨q, h⟩
  · rename_i q; exact absurd h q

set_option maxRecDepth 100000 in
set_option maxHeartbeats 2000000 in
theorem implMany_c (a : Option Addr) (n cap : Nat) (zs : List RuleI) (a' : Option Addr) (m cap' : Nat) (ps : List PartI) (w : World) (hn : n ≤ 1048576) (hm : m ≤ 1048576) (hcap : n ≤ cap) (hcm : cap ≤ maxLen) (h : RulesIn w a n zs) (h' : PartsIn w a' m ps) :
    Calls Tryz.prog 44 #[.slice a n cap, .slice a' m cap'] w fun e w' => e = .returned (.int .i64 (manyCode zs ps)) ∧ Below w.heap.size w w' := by
  have HP : Hid (∀ w2 : World, Below w.heap.size w w2 → Calls Tryz.prog 86 #[.slice a n cap] w2 fun e w' => e = .returned (.int .i64 (polCode zs)) ∧ Below w2.heap.size w2 w') := fun w2 q => implPolicyFault_c a n cap zs w2 hn hcap hcm (h.below q)
  have HQ : Hid (∀ w2 : World, Below w.heap.size w w2 → Calls Tryz.prog 27 #[.slice a' m cap'] w2 fun e w' => e = .returned (.int .i64 (ptCode ps)) ∧ Below w2.heap.size w2 w') := fun w2 q => implPartsFault_c a' m cap' ps w2 (by unfold maxLen; omega) (h'.below q)
  unfold manyCode
  generalize polCode zs = p at HP
  generalize ptCode ps = q at HQ
  clear h h'
  go_enter Tryz.func44, Tryz.ntmps44
  go_wp2_with fail
  refine (HP.out _ (Below.refl _ _)).mono ?_
  rintro e w1 ⟨rfl, hb1⟩
  go_wp2_with fail
  refine (HQ.out _ hb1).mono ?_
  rintro e w2 ⟨rfl, hb2'⟩
  have hb2 : Below w.heap.size w w2 := hb1.trans (hb2'.mono hb1.size)
  have hb3 : Below w.heap.size w (w2.alloc (.cells #[.int .i64 p, .int .i64 q] 2)) := hb2.alloc hb2.size _
  go_wp2_with (first | (go_at_call 85; refine (or64_c _ p q _ ?_ ?_).mono ?_; (· simp [go_sem]); (· simp [go_sem]); rintro e w' ⟨rfl, rfl⟩) | fail)
  go_ret
  exact ⟨rfl, hb3⟩

set_option maxRecDepth 100000 in
set_option maxHeartbeats 2000000 in
theorem specAsked_c (a : Option Addr) (n cap : Nat) (zs : List RuleI) (a' : Option Addr) (m cap' : Nat) (ps : List PartI) (w : World) (hn : n ≤ 1048576) (hm : m ≤ 1048576) (h : RulesIn w a n zs) (h' : PartsIn w a' m ps) :
    Calls Tryz.prog 73 #[.slice a n cap, .slice a' m cap'] w fun e w' => e = .returned (.int .i64 (manyCode zs ps)) ∧ Below w.heap.size w w' := by
  have HP : Hid (∀ w2 : World, Below w.heap.size w w2 → Calls Tryz.prog 71 #[.slice a n cap] w2 fun e w' => e = .returned (.int .i64 (polCode zs)) ∧ Below w2.heap.size w2 w') := fun w2 q => l2Fault_c a n cap zs w2 hn (h.below q)
  have HQ : Hid (∀ w2 : World, Below w.heap.size w w2 → Calls Tryz.prog 63 #[.slice a' m cap'] w2 fun e w' => e = .returned (.int .i64 (ptCode ps)) ∧ Below w2.heap.size w2 w') := fun w2 q => l4Fault_c a' m cap' ps w2 (by unfold maxLen; omega) (h'.below q)
  unfold manyCode
  generalize polCode zs = p at HP
  generalize ptCode ps = q at HQ
  clear h h'
  by_cases hp : p = 0
  · have e : orC p q = q := by simp [orC, hp]
    have hpb : (p != 0) = false := by simp [hp]
    rw [e]
    clear hp e
    go_enter Tryz.func73, Tryz.ntmps73
    go_wp2_with fail
    refine (HP.out _ (Below.refl _ _)).mono ?_
    rintro e w1 ⟨rfl, hb1⟩
    go_wp2_with fail
    refine (HQ.out _ hb1).mono ?_
    rintro e w2 ⟨rfl, hb2⟩
    go_wp2_with fail
    go_ret
    exact ⟨rfl, hb1.trans (hb2.mono hb1.size)⟩
  · have e : orC p q = p := by simp [orC, hp]
    have hpb : (p != 0) = true := by simp [hp]
    rw [e]
    clear hp e
    go_enter Tryz.func73, Tryz.ntmps73
    go_wp2_with fail
    refine (HP.out _ (Below.refl _ _)).mono ?_
    rintro e w1 ⟨rfl, hb1⟩
    go_wp2_with fail
    go_ret
    exact ⟨rfl, hb1⟩

theorem index_told (cT : Array Value) (x : Nat) (v : Value) (hx : x < 256) (hs : cT.size = 256) (hc : cT[x]? = some v) (hv : v.oneCell' = true) (w : World) : (Instr.index 87 (.agg cT) (.int .i64 (x : Int))).run Tryz.prog w = .ok v w := by
  have h1 : (0 : Int) ≤ (x : Int) := by omega
  have h2 : (x : Int) < 256 := by omega
  simp [Instr.index, run_underlying ts_under, go_sem, h1, h2, hs, hc]
  intro h; omega

def GivesA (f : Nat) (a : Option Addr) (n cap : Nat) (a' : Option Addr) (m cap' : Nat) (s : Int) (t : Bool) (w : World) : Prop := Calls Tryz.prog f #[.slice a n cap, .slice a' m cap', .int .i64 s] w fun e w' => e = .returned (.bool t) ∧ Below w.heap.size w w'

/-- Is a set admitted? -/
def admB (zs : List RuleI) (ps : List PartI) (gs : List GrI) (s : Int) : Bool := decide (manyCode zs ps = 0) && setIn s && tellsL (ofG gs) ps s.toNat

set_option maxRecDepth 100000 in
set_option maxHeartbeats 2000000 in
theorem implAdmits_c (a : Option Addr) (n cap : Nat) (zs : List RuleI) (a' : Option Addr) (m cap' : Nat) (ps : List PartI) (gs : List GrI) (s : Int) (w : World) (hn : n ≤ 1048576) (hm : m ≤ 1048576) (hcap : n ≤ cap) (hcm : cap ≤ maxLen) (h : RulesIn w a n zs) (h' : PartsIn w a' m ps) (hg : polCode zs = 0 → AllG zs gs) :
    GivesA 16 a n cap a' m cap' s (admB zs ps gs s) w := by
  have HM : Hid (Calls Tryz.prog 44 #[.slice a n cap, .slice a' m cap'] w fun e w' => e = .returned (.int .i64 (manyCode zs ps)) ∧ Below w.heap.size w w') := implMany_c a n cap zs a' m cap' ps w hn hm hcap hcm h h'
  have HT : Hid (manyCode zs ps = 0 → ∀ w2 : World, Below w.heap.size w w2 → Calls Tryz.prog 46 #[.slice a n cap, .slice a' m cap'] w2 fun e w' => e = .returned (.agg (arrT (tellsL (ofG gs) ps))) ∧ Below w2.heap.size w2 w') := fun hc w2 q => toldBy_c a n cap zs a' m cap' ps gs w2 (h.below q) (many_zero hc).1 (hg (many_zero hc).1) (h'.below q) (many_zero hc).2
  clear h h' hg
  unfold admB
  generalize manyCode zs ps = c at HM HT
  generalize tellsL (ofG gs) ps = T at HT
  unfold GivesA
  by_cases hc : c = 0
  · have hcb : (c == 0) = true := by simp [hc]
    rw [show decide (c = 0) = true from decide_eq_true hc, Bool.true_and]
    cases hs : setIn s
    · have hf : (if setIn s = true then (0 : Int) else 3) = 3 := by simp [hs]
      rw [Bool.false_and]
      clear hc
      go_enter Tryz.func16, Tryz.ntmps16
      go_wp2_with fail
      refine (HM.out).mono ?_
      rintro e w1 ⟨rfl, hb1⟩
      go_wp2_with (first | (go_at_call 45; refine (setFault_c s _).mono ?_; rintro e w2 ⟨rfl, rfl⟩; rw [hf]) | fail)
      go_ret
      exact ⟨rfl, hb1⟩
    · have hf : (if setIn s = true then (0 : Int) else 3) = 0 := by simp [hs]
      rw [Bool.true_and]
      obtain ⟨x, rfl⟩ : ∃ x : Nat, s = (x : Int) := ⟨s.toNat, by simp [setIn] at hs; omega⟩
      have hx : x < 256 := by simp [setIn] at hs; omega
      have hx' : (x : Int) < 256 := by omega
      rw [Int.toNat_natCast]
      have HT2 : Hid _ := HT.out hc
      have cx := arrT_at T hx
      have csz := arrT_size T
      generalize arrT T = cT at HT2 cx csz
      clear hc hs
      go_enter Tryz.func16, Tryz.ntmps16
      go_wp2_with fail
      refine (HM.out).mono ?_
      rintro e w1 ⟨rfl, hb1⟩
      go_wp2_with (first | (go_at_call 45; refine (setFault_c _ _).mono ?_; rintro e w2 ⟨rfl, rfl⟩; rw [hf]) | fail)
      refine (HT2.out _ hb1).mono ?_
      rintro e w3 ⟨rfl, hb3⟩
      have hix := index_told cT x _ hx csz cx rfl w3
      go_wp2_with fail
      go_ret
      exact ⟨rfl, hb1.trans (hb3.mono hb1.size)⟩
  · have hcb : (c == 0) = false := by simp [hc]
    rw [show decide (c = 0) = false from decide_eq_false hc, Bool.false_and, Bool.false_and]
    clear hc
    go_enter Tryz.func16, Tryz.ntmps16
    go_wp2_with fail
    refine (HM.out).mono ?_
    rintro e w1 ⟨rfl, hb1⟩
    go_wp2_with fail
    go_ret
    exact ⟨rfl, hb1⟩

end Go.Proofs.YtnfolmjdicfobaaGreatDoor
