/-
  CONTRACTS: the codes of forms; Admits of both programs.
  Conditions: each contract bears its own.
-/
import Derived.Test.YtnmidppiakdanaaTl3
import Derived.Test.YtnmidppiakdanaaTl4
import Derived.Test.YtnmidppiakdanaaGf2
import Derived.Test.YtnmidppiakdanaaGf1
namespace Go.Proofs.Ytnmidppiakdanaa
open Go.RowKit
set_option linter.unusedVariables false
set_option linter.unusedSimpArgs false

def manyCode (zs : List RuleI) (ps : List PartI) : Int := orC (polCode zs) (ptCode ps)

theorem many_zero {zs : List RuleI} {ps : List PartI} (h : manyCode zs ps = 0) : polCode zs = 0 ∧ ptCode ps = 0 := by
  unfold manyCode orC at h
  split at h
  · rename_i q; exact ⟨q, h⟩
  · rename_i q; exact absurd h q

set_option maxRecDepth 100000 in
set_option maxHeartbeats 2000000 in
theorem implMany_c (a : Option Addr) (n cap : Nat) (zs : List RuleI) (a' : Option Addr) (m cap' : Nat) (ps : List PartI) (w : World) (hn : n ≤ 1048576) (hm : m ≤ 1048576) (hcap : n ≤ cap) (hcm : cap ≤ maxLen) (h : RulesIn w a n zs) (h' : PartsIn w a' m ps) :
    Calls Try.prog 81 #[.slice a n cap, .slice a' m cap'] w fun e w' => e = .returned (.int .i64 (manyCode zs ps)) ∧ Below w.heap.size w w' := by
  have HP : Hid (∀ w2 : World, Below w.heap.size w w2 → Calls Try.prog 24 #[.slice a n cap] w2 fun e w' => e = .returned (.int .i64 (polCode zs)) ∧ Below w2.heap.size w2 w') := fun w2 q => implPolicyFault_c a n cap zs w2 hn hcap hcm (h.below q)
  have HQ : Hid (∀ w2 : World, Below w.heap.size w w2 → Calls Try.prog 45 #[.slice a' m cap'] w2 fun e w' => e = .returned (.int .i64 (ptCode ps)) ∧ Below w2.heap.size w2 w') := fun w2 q => implPartsFault_c a' m cap' ps w2 (by unfold maxLen; omega) (h'.below q)
  unfold manyCode
  generalize polCode zs = p at HP
  generalize ptCode ps = q at HQ
  clear h h'
  go_enter Try.func81, Try.ntmps81
  go_wp2_with fail
  refine (HP.out _ (Below.refl _ _)).mono ?_
  rintro e w1 ⟨rfl, hb1⟩
  go_wp2_with fail
  refine (HQ.out _ hb1).mono ?_
  rintro e w2 ⟨rfl, hb2'⟩
  have hb2 : Below w.heap.size w w2 := hb1.trans (hb2'.mono hb1.size)
  have hb3 : Below w.heap.size w (w2.alloc (.cells #[.int .i64 p, .int .i64 q] 2)) := hb2.alloc hb2.size _
  go_wp2_with (first | (go_at_call 61; refine (or64_c _ p q _ ?_ ?_).mono ?_; (· simp [go_sem]); (· simp [go_sem]); rintro e w' ⟨rfl, rfl⟩) | fail)
  go_ret
  exact ⟨rfl, hb3⟩

set_option maxRecDepth 100000 in
set_option maxHeartbeats 2000000 in
theorem specAsked_c (a : Option Addr) (n cap : Nat) (zs : List RuleI) (a' : Option Addr) (m cap' : Nat) (ps : List PartI) (w : World) (hn : n ≤ 1048576) (hm : m ≤ 1048576) (h : RulesIn w a n zs) (h' : PartsIn w a' m ps) :
    Calls Try.prog 83 #[.slice a n cap, .slice a' m cap'] w fun e w' => e = .returned (.int .i64 (manyCode zs ps)) ∧ Below w.heap.size w w' := by
  have HP : Hid (∀ w2 : World, Below w.heap.size w w2 → Calls Try.prog 64 #[.slice a n cap] w2 fun e w' => e = .returned (.int .i64 (polCode zs)) ∧ Below w2.heap.size w2 w') := fun w2 q => l2Fault_c a n cap zs w2 hn (h.below q)
  have HQ : Hid (∀ w2 : World, Below w.heap.size w w2 → Calls Try.prog 98 #[.slice a' m cap'] w2 fun e w' => e = .returned (.int .i64 (ptCode ps)) ∧ Below w2.heap.size w2 w') := fun w2 q => l4Fault_c a' m cap' ps w2 (by unfold maxLen; omega) (h'.below q)
  unfold manyCode
  generalize polCode zs = p at HP
  generalize ptCode ps = q at HQ
  clear h h'
  by_cases hp : p = 0
  · have e : orC p q = q := by simp [orC, hp]
    have hpb : (p != 0) = false := by simp [hp]
    rw [e]
    clear hp e
    go_enter Try.func83, Try.ntmps83
    go_wp2_with fail
    refine (HP.out _ (Below.refl _ _)).mono ?_
    rintro e w1 ⟨rfl, hb1⟩
    go_wp2_with fail
    refine (HQ.out _ hb1).mono ?_
    rintro e w2 ⟨rfl, hb2⟩
    go_wp2_with fail
    go_ret
    exact ⟨rfl, hb1.trans (hb2.mono hb1.size)⟩
  · have e : orC p q = p := by simp [orC, hp]
    have hpb : (p != 0) = true := by simp [hp]
    rw [e]
    clear hp e
    go_enter Try.func83, Try.ntmps83
    go_wp2_with fail
    refine (HP.out _ (Below.refl _ _)).mono ?_
    rintro e w1 ⟨rfl, hb1⟩
    go_wp2_with fail
    go_ret
    exact ⟨rfl, hb1⟩

theorem index_told (cT : Array Value) (x : Nat) (v : Value) (hx : x < 256) (hs : cT.size = 256) (hc : cT[x]? = some v) (hv : v.oneCell' = true) (w : World) : (Instr.index 119 (.agg cT) (.int .i64 (x : Int))).run Try.prog w = .ok v w := by
  have h1 : (0 : Int) ≤ (x : Int) := by omega
  have h2 : (x : Int) < 256 := by omega
  simp [Instr.index, run_underlying ts_under, go_sem, h1, h2, hs, hc]
  intro h; omega

def GivesA (f : Nat) (a : Option Addr) (n cap : Nat) (a' : Option Addr) (m cap' : Nat) (s : Int) (t : Bool) (w : World) : Prop := Calls Try.prog f #[.slice a n cap, .slice a' m cap', .int .i64 s] w fun e w' => e = .returned (.bool t) ∧ Below w.heap.size w w'

/-- Is a set admitted? -/
def admB (zs : List RuleI) (ps : List PartI) (gs : List GrI) (s : Int) : Bool := decide (manyCode zs ps = 0) && setIn s && tellsL (ofG gs) ps s.toNat

set_option maxRecDepth 100000 in
set_option maxHeartbeats 2000000 in
theorem implAdmits_c (a : Option Addr) (n cap : Nat) (zs : List RuleI) (a' : Option Addr) (m cap' : Nat) (ps : List PartI) (gs : List GrI) (s : Int) (w : World) (hn : n ≤ 1048576) (hm : m ≤ 1048576) (hcap : n ≤ cap) (hcm : cap ≤ maxLen) (h : RulesIn w a n zs) (h' : PartsIn w a' m ps) (hg : polCode zs = 0 → AllG zs gs) :
    GivesA 52 a n cap a' m cap' s (admB zs ps gs s) w := by
  have HM : Hid (Calls Try.prog 81 #[.slice a n cap, .slice a' m cap'] w fun e w' => e = .returned (.int .i64 (manyCode zs ps)) ∧ Below w.heap.size w w') := implMany_c a n cap zs a' m cap' ps w hn hm hcap hcm h h'
  have HT : Hid (manyCode zs ps = 0 → ∀ w2 : World, Below w.heap.size w w2 → Calls Try.prog 82 #[.slice a n cap, .slice a' m cap'] w2 fun e w' => e = .returned (.agg (arrT (tellsL (ofG gs) ps))) ∧ Below w2.heap.size w2 w') := fun hc w2 q => toldBy_c a n cap zs a' m cap' ps gs w2 (h.below q) (many_zero hc).1 (hg (many_zero hc).1) (h'.below q) (many_zero hc).2
  clear h h' hg
  unfold admB
  generalize manyCode zs ps = c at HM HT
  generalize tellsL (ofG gs) ps = T at HT
  unfold GivesA
  by_cases hc : c = 0
  · have hcb : (c == 0) = true := by simp [hc]
    rw [show decide (c = 0) = true from decide_eq_true hc, Bool.true_and]
    cases hs : setIn s
    · have hf : (if setIn s = true then (0 : Int) else 3) = 3 := by simp [hs]
      rw [Bool.false_and]
      clear hc
      go_enter Try.func52, Try.ntmps52
      go_wp2_with fail
      refine (HM.out).mono ?_
      rintro e w1 ⟨rfl, hb1⟩
      go_wp2_with (first | (go_at_call 69; refine (setFault_c s _).mono ?_; rintro e w2 ⟨rfl, rfl⟩; rw [hf]) | fail)
      go_ret
      exact ⟨rfl, hb1⟩
    · have hf : (if setIn s = true then (0 : Int) else 3) = 0 := by simp [hs]
      rw [Bool.true_and]
      obtain ⟨x, rfl⟩ : ∃ x : Nat, s = (x : Int) := ⟨s.toNat, by simp [setIn] at hs; omega⟩
      have hx : x < 256 := by simp [setIn] at hs; omega
      have hx' : (x : Int) < 256 := by omega
      rw [Int.toNat_natCast]
      have HT2 : Hid _ := HT.out hc
      have cx := arrT_at T hx
      have csz := arrT_size T
      generalize arrT T = cT at HT2 cx csz
      clear hc hs
      go_enter Try.func52, Try.ntmps52
      go_wp2_with fail
      refine (HM.out).mono ?_
      rintro e w1 ⟨rfl, hb1⟩
      go_wp2_with (first | (go_at_call 69; refine (setFault_c _ _).mono ?_; rintro e w2 ⟨rfl, rfl⟩; rw [hf]) | fail)
      refine (HT2.out _ hb1).mono ?_
      rintro e w3 ⟨rfl, hb3⟩
      have hix := index_told cT x _ hx csz cx rfl w3
      go_wp2_with fail
      go_ret
      exact ⟨rfl, hb1.trans (hb3.mono hb1.size)⟩
  · have hcb : (c == 0) = false := by simp [hc]
    rw [show decide (c = 0) = false from decide_eq_false hc, Bool.false_and, Bool.false_and]
    clear hc
    go_enter Try.func52, Try.ntmps52
    go_wp2_with fail
    refine (HM.out).mono ?_
    rintro e w1 ⟨rfl, hb1⟩
    go_wp2_with fail
    go_ret
    exact ⟨rfl, hb1⟩

set_option maxRecDepth 100000 in
set_option maxHeartbeats 2000000 in
theorem specAdmits_c (a : Option Addr) (n cap : Nat) (zs : List RuleI) (a' : Option Addr) (m cap' : Nat) (ps : List PartI) (gs : List GrI) (s : Int) (w : World) (hn : n ≤ 1048576) (hm : m ≤ 1048576) (h : RulesIn w a n zs) (h' : PartsIn w a' m ps) (hg : polCode zs = 0 → AllG zs gs) :
    GivesA 51 a n cap a' m cap' s (admB zs ps gs s) w := by
  have HM : Hid (Calls Try.prog 83 #[.slice a n cap, .slice a' m cap'] w fun e w' => e = .returned (.int .i64 (manyCode zs ps)) ∧ Below w.heap.size w w') := specAsked_c a n cap zs a' m cap' ps w hn hm h h'
  have HT : Hid (manyCode zs ps = 0 → ∀ w2 : World, Below w.heap.size w w2 → Calls Try.prog 84 #[.slice a n cap, .slice a' m cap'] w2 fun e w' => ∃ g, e = .returned (.slice (some ⟨g, 0, none⟩) 256 256) ∧ RowF w' g (tellsL (ofG gs) ps) ∧ Below w2.heap.size w2 w') := fun hc w2 q => l4Sets_c a n cap zs a' m cap' ps gs w2 (h.below q) (many_zero hc).1 (hg (many_zero hc).1) (h'.below q) (many_zero hc).2
  clear h h' hg
  unfold admB
  generalize manyCode zs ps = c at HM HT
  generalize tellsL (ofG gs) ps = T at HT
  unfold GivesA
  by_cases hc : c = 0
  · have hcb : (c == 0) = true := by simp [hc]
    rw [show decide (c = 0) = true from decide_eq_true hc, Bool.true_and]
    have HT2 : Hid (∀ w2 : World, Below w.heap.size w w2 → Calls Try.prog 84 #[.slice a n cap, .slice a' m cap'] w2 fun e w' => ∃ g, e = .returned (.slice (some ⟨g, 0, none⟩) 256 256) ∧ RowF w' g T ∧ Below w2.heap.size w2 w') := HT.out hc
    cases hs : setIn s
    · rw [Bool.false_and]
      have HSI : Hid (setIn s = false) := hs
      clear hc hs
      go_enter Try.func51, Try.ntmps51
      go_wp2_with fail
      refine (HM.out).mono ?_
      rintro e w1 ⟨rfl, hb1⟩
      go_wp2_with (first | (go_at_call 102; refine (l1Set_c s _).mono ?_; rintro e w2 ⟨rfl, rfl⟩; rw [HSI.out]) | fail)
      go_ret
      exact ⟨rfl, hb1⟩
    · rw [Bool.true_and]
      have HSI : Hid (setIn s = true) := hs
      obtain ⟨x, hxe⟩ : ∃ x : Nat, s = (x : Int) := ⟨s.toNat, by simp [setIn] at hs; omega⟩
      have hx : x < 256 := by simp [setIn] at hs; omega
      have hx' : (x : Int) < 256 := by omega
      rw [hxe, Int.toNat_natCast]
      rw [hxe] at HSI
      clear hc hs
      go_enter Try.func51, Try.ntmps51
      go_wp2_with fail
      refine (HM.out).mono ?_
      rintro e w1 ⟨rfl, hb1⟩
      go_wp2_with (first | (go_at_call 102; refine (l1Set_c _ _).mono ?_; rintro e w2 ⟨rfl, rfl⟩; rw [HSI.out]) | fail)
      refine (HT2.out _ hb1).mono ?_
      rintro e w3 ⟨g, rfl, hrow, hb3⟩
      have cx := hrow x hx
      clear hrow
      go_wp2_with fail
      go_ret
      exact ⟨rfl, hb1.trans (hb3.mono hb1.size)⟩
  · have hcb : (c == 0) = false := by simp [hc]
    rw [show decide (c = 0) = false from decide_eq_false hc, Bool.false_and, Bool.false_and]
    clear hc
    go_enter Try.func51, Try.ntmps51
    go_wp2_with fail
    refine (HM.out).mono ?_
    rintro e w1 ⟨rfl, hb1⟩
    go_wp2_with fail
    go_ret
    exact ⟨rfl, hb1⟩

end Go.Proofs.Ytnmidppiakdanaa
