/-
  CONTRACTS: the codes of forms; Admits of both programs.
  Conditions: each contract bears its own.
  CONTRACTS: SetsOf of both programs.
  Conditions: each contract bears its own.
  CONTRACTS: parts marked; results of sets compared, marked and held; what SetsOf's law keeps.
  Conditions: each contract bears its own.
-/
import Derived.Test.YtocdclgolhhckaaPk27
import Derived.Test.YtocdclgolhhckaaPk28
import Derived.Test.YtocdclgolhhckaaPk21
import Derived.Test.YtocdclgolhhckaaPk20
import Derived.Test.YtocdclgolhhckaaPk25
import Derived.Test.YtocdclgolhhckaaPk19
namespace Go.Proofs.Ytocdclgolhhckaa
open Go.RowKit
set_option linter.unusedVariables false
set_option linter.unusedSimpArgs false

def manyCode (zs : List RuleI) (ps : List PartI) : Int := orC (polCode zs) (ptCode ps)

theorem many_zero {zs : List RuleI} {ps : List PartI} (h : manyCode zs ps = 0) : polCode zs = 0 ∧ ptCode ps = 0 := by
  unfold manyCode orC at h
  split at h
  · rename_i q; exact ⟨q, h⟩
  · rename_i q; exact absurd h q

set_option maxRecDepth 100000 in
set_option maxHeartbeats 2000000 in
theorem implMany_c (a : Option Addr) (n cap : Nat) (zs : List RuleI) (a' : Option Addr) (m cap' : Nat) (ps : List PartI) (w : World) (hn : n ≤ 1048576) (hm : m ≤ 1048576) (hcap : n ≤ cap) (hcm : cap ≤ maxLen) (h : RulesIn w a n zs) (h' : PartsIn w a' m ps) :
    Calls Try.prog 86 #[.slice a n cap, .slice a' m cap'] w fun e w' => e = .returned (.int .i64 (manyCode zs ps)) ∧ Below w.heap.size w w' := by
  have HP : Hid (∀ w2 : World, Below w.heap.size w w2 → Calls Try.prog 59 #[.slice a n cap] w2 fun e w' => e = .returned (.int .i64 (polCode zs)) ∧ Below w2.heap.size w2 w') := fun w2 q => implPolicyFault_c a n cap zs w2 hn hcap hcm (h.below q)
  have HQ : Hid (∀ w2 : World, Below w.heap.size w w2 → Calls Try.prog 114 #[.slice a' m cap'] w2 fun e w' => e = .returned (.int .i64 (ptCode ps)) ∧ Below w2.heap.size w2 w') := fun w2 q => implPartsFault_c a' m cap' ps w2 (by unfold maxLen; omega) (h'.below q)
  unfold manyCode
  generalize polCode zs = p at HP
  generalize ptCode ps = q at HQ
  clear h h'
  go_enter Try.func86, Try.ntmps86
  go_wp2_with fail
  refine (HP.out _ (Below.refl _ _)).mono ?_
  rintro e w1 ⟨rfl, hb1⟩
  go_wp2_with fail
  refine (HQ.out _ hb1).mono ?_
  rintro e w2 ⟨rfl, hb2'⟩
  have hb2 : Below w.heap.size w w2 := hb1.trans (hb2'.mono hb1.size)
  have hb3 : Below w.heap.size w (w2.alloc (.cells #[.int .i64 p, .int .i64 q] 2)) := hb2.alloc hb2.size _
  go_wp2_with (first | (go_at_call 58; refine (or64_c _ p q _ ?_ ?_).mono ?_; (· simp [go_sem]); (· simp [go_sem]); rintro e w' ⟨rfl, rfl⟩) | fail)
  go_ret
  exact ⟨rfl, hb3⟩

set_option maxRecDepth 100000 in
set_option maxHeartbeats 2000000 in
theorem specAsked_c (a : Option Addr) (n cap : Nat) (zs : List RuleI) (a' : Option Addr) (m cap' : Nat) (ps : List PartI) (w : World) (hn : n ≤ 1048576) (hm : m ≤ 1048576) (h : RulesIn w a n zs) (h' : PartsIn w a' m ps) :
    Calls Try.prog 83 #[.slice a n cap, .slice a' m cap'] w fun e w' => e = .returned (.int .i64 (manyCode zs ps)) ∧ Below w.heap.size w w' := by
  have HP : Hid (∀ w2 : World, Below w.heap.size w w2 → Calls Try.prog 53 #[.slice a n cap] w2 fun e w' => e = .returned (.int .i64 (polCode zs)) ∧ Below w2.heap.size w2 w') := fun w2 q => l2Fault_c a n cap zs w2 hn (h.below q)
  have HQ : Hid (∀ w2 : World, Below w.heap.size w w2 → Calls Try.prog 113 #[.slice a' m cap'] w2 fun e w' => e = .returned (.int .i64 (ptCode ps)) ∧ Below w2.heap.size w2 w') := fun w2 q => l4Fault_c a' m cap' ps w2 (by unfold maxLen; omega) (h'.below q)
  unfold manyCode
  generalize polCode zs = p at HP
  generalize ptCode ps = q at HQ
  clear h h'
  by_cases hp : p = 0
  · have e : orC p q = q := by simp [orC, hp]
    have hpb : (p != 0) = false := by simp [hp]
    rw [e]
    clear hp e
    go_enter Try.func83, Try.ntmps83
    go_wp2_with fail
    refine (HP.out _ (Below.refl _ _)).mono ?_
    rintro e w1 ⟨rfl, hb1⟩
    go_wp2_with fail
    refine (HQ.out _ hb1).mono ?_
    rintro e w2 ⟨rfl, hb2⟩
    go_wp2_with fail
    go_ret
    exact ⟨rfl, hb1.trans (hb2.mono hb1.size)⟩
  · have e : orC p q = p := by simp [orC, hp]
    have hpb : (p != 0) = true := by simp [hp]
    rw [e]
    clear hp e
    go_enter Try.func83, Try.ntmps83
    go_wp2_with fail
    refine (HP.out _ (Below.refl _ _)).mono ?_
    rintro e w1 ⟨rfl, hb1⟩
    go_wp2_with fail
    go_ret
    exact ⟨rfl, hb1⟩

theorem index_told (cT : Array Value) (x : Nat) (v : Value) (hx : x < 256) (hs : cT.size = 256) (hc : cT[x]? = some v) (hv : v.oneCell' = true) (w : World) : (Instr.index 117 (.agg cT) (.int .i64 (x : Int))).run Try.prog w = .ok v w := by
  have h1 : (0 : Int) ≤ (x : Int) := by omega
  have h2 : (x : Int) < 256 := by omega
  simp [Instr.index, run_underlying ts_under, go_sem, h1, h2, hs, hc]
  intro h; omega

def GivesA (f : Nat) (a : Option Addr) (n cap : Nat) (a' : Option Addr) (m cap' : Nat) (s : Int) (t : Bool) (w : World) : Prop := Calls Try.prog f #[.slice a n cap, .slice a' m cap', .int .i64 s] w fun e w' => e = .returned (.bool t) ∧ Below w.heap.size w w'

/-- Is a set admitted? -/
def admB (zs : List RuleI) (ps : List PartI) (gs : List GrI) (s : Int) : Bool := decide (manyCode zs ps = 0) && setIn s && tellsL (ofG gs) ps s.toNat

set_option maxRecDepth 100000 in
set_option maxHeartbeats 2000000 in
theorem implAdmits_c (a : Option Addr) (n cap : Nat) (zs : List RuleI) (a' : Option Addr) (m cap' : Nat) (ps : List PartI) (gs : List GrI) (s : Int) (w : World) (hn : n ≤ 1048576) (hm : m ≤ 1048576) (hcap : n ≤ cap) (hcm : cap ≤ maxLen) (h : RulesIn w a n zs) (h' : PartsIn w a' m ps) (hg : polCode zs = 0 → AllG zs gs) :
    GivesA 48 a n cap a' m cap' s (admB zs ps gs s) w := by
  have HM : Hid (Calls Try.prog 86 #[.slice a n cap, .slice a' m cap'] w fun e w' => e = .returned (.int .i64 (manyCode zs ps)) ∧ Below w.heap.size w w') := implMany_c a n cap zs a' m cap' ps w hn hm hcap hcm h h'
  have HT : Hid (manyCode zs ps = 0 → ∀ w2 : World, Below w.heap.size w w2 → Calls Try.prog 87 #[.slice a n cap, .slice a' m cap'] w2 fun e w' => e = .returned (.agg (arrT (tellsL (ofG gs) ps))) ∧ Below w2.heap.size w2 w') := fun hc w2 q => toldBy_c a n cap zs a' m cap' ps gs w2 (h.below q) (many_zero hc).1 (hg (many_zero hc).1) (h'.below q) (many_zero hc).2
  clear h h' hg
  unfold admB
  generalize manyCode zs ps = c at HM HT
  generalize tellsL (ofG gs) ps = T at HT
  unfold GivesA
  by_cases hc : c = 0
  · have hcb : (c == 0) = true := by simp [hc]
    rw [show decide (c = 0) = true from decide_eq_true hc, Bool.true_and]
    cases hs : setIn s
    · have hf : (if setIn s = true then (0 : Int) else 3) = 3 := by simp [hs]
      rw [Bool.false_and]
      clear hc
      go_enter Try.func48, Try.ntmps48
      go_wp2_with fail
      refine (HM.out).mono ?_
      rintro e w1 ⟨rfl, hb1⟩
      go_wp2_with (first | (go_at_call 90; refine (setFault_c s _).mono ?_; rintro e w2 ⟨rfl, rfl⟩; rw [hf]) | fail)
      go_ret
      exact ⟨rfl, hb1⟩
    · have hf : (if setIn s = true then (0 : Int) else 3) = 0 := by simp [hs]
      rw [Bool.true_and]
      obtain ⟨x, rfl⟩ : ∃ x : Nat, s = (x : Int) := ⟨s.toNat, by simp [setIn] at hs; omega⟩
      have hx : x < 256 := by simp [setIn] at hs; omega
      have hx' : (x : Int) < 256 := by omega
      rw [Int.toNat_natCast]
      have HT2 : Hid _ := HT.out hc
      have cx := arrT_at T hx
      have csz := arrT_size T
      generalize arrT T = cT at HT2 cx csz
      clear hc hs
      go_enter Try.func48, Try.ntmps48
      go_wp2_with fail
      refine (HM.out).mono ?_
      rintro e w1 ⟨rfl, hb1⟩
      go_wp2_with (first | (go_at_call 90; refine (setFault_c _ _).mono ?_; rintro e w2 ⟨rfl, rfl⟩; rw [hf]) | fail)
      refine (HT2.out _ hb1).mono ?_
      rintro e w3 ⟨rfl, hb3⟩
      have hix := index_told cT x _ hx csz cx rfl w3
      go_wp2_with fail
      go_ret
      exact ⟨rfl, hb1.trans (hb3.mono hb1.size)⟩
  · have hcb : (c == 0) = false := by simp [hc]
    rw [show decide (c = 0) = false from decide_eq_false hc, Bool.false_and, Bool.false_and]
    clear hc
    go_enter Try.func48, Try.ntmps48
    go_wp2_with fail
    refine (HM.out).mono ?_
    rintro e w1 ⟨rfl, hb1⟩
    go_wp2_with fail
    go_ret
    exact ⟨rfl, hb1⟩

set_option maxRecDepth 100000 in
set_option maxHeartbeats 2000000 in
theorem specAdmits_c (a : Option Addr) (n cap : Nat) (zs : List RuleI) (a' : Option Addr) (m cap' : Nat) (ps : List PartI) (gs : List GrI) (s : Int) (w : World) (hn : n ≤ 1048576) (hm : m ≤ 1048576) (h : RulesIn w a n zs) (h' : PartsIn w a' m ps) (hg : polCode zs = 0 → AllG zs gs) :
    GivesA 47 a n cap a' m cap' s (admB zs ps gs s) w := by
  have HM : Hid (Calls Try.prog 83 #[.slice a n cap, .slice a' m cap'] w fun e w' => e = .returned (.int .i64 (manyCode zs ps)) ∧ Below w.heap.size w w') := specAsked_c a n cap zs a' m cap' ps w hn hm h h'
  have HT : Hid (manyCode zs ps = 0 → ∀ w2 : World, Below w.heap.size w w2 → Calls Try.prog 84 #[.slice a n cap, .slice a' m cap'] w2 fun e w' => ∃ g, e = .returned (.slice (some ⟨g, 0, none⟩) 256 256) ∧ RowF w' g (tellsL (ofG gs) ps) ∧ Below w2.heap.size w2 w') := fun hc w2 q => l4Sets_c a n cap zs a' m cap' ps gs w2 (h.below q) (many_zero hc).1 (hg (many_zero hc).1) (h'.below q) (many_zero hc).2
  clear h h' hg
  unfold admB
  generalize manyCode zs ps = c at HM HT
  generalize tellsL (ofG gs) ps = T at HT
  unfold GivesA
  by_cases hc : c = 0
  · have hcb : (c == 0) = true := by simp [hc]
    rw [show decide (c = 0) = true from decide_eq_true hc, Bool.true_and]
    have HT2 : Hid (∀ w2 : World, Below w.heap.size w w2 → Calls Try.prog 84 #[.slice a n cap, .slice a' m cap'] w2 fun e w' => ∃ g, e = .returned (.slice (some ⟨g, 0, none⟩) 256 256) ∧ RowF w' g T ∧ Below w2.heap.size w2 w') := HT.out hc
    cases hs : setIn s
    · rw [Bool.false_and]
      have HSI : Hid (setIn s = false) := hs
      clear hc hs
      go_enter Try.func47, Try.ntmps47
      go_wp2_with fail
      refine (HM.out).mono ?_
      rintro e w1 ⟨rfl, hb1⟩
      go_wp2_with (first | (go_at_call 89; refine (l1Set_c s _).mono ?_; rintro e w2 ⟨rfl, rfl⟩; rw [HSI.out]) | fail)
      go_ret
      exact ⟨rfl, hb1⟩
    · rw [Bool.true_and]
      have HSI : Hid (setIn s = true) := hs
      obtain ⟨x, hxe⟩ : ∃ x : Nat, s = (x : Int) := ⟨s.toNat, by simp [setIn] at hs; omega⟩
      have hx : x < 256 := by simp [setIn] at hs; omega
      have hx' : (x : Int) < 256 := by omega
      rw [hxe, Int.toNat_natCast]
      rw [hxe] at HSI
      clear hc hs
      go_enter Try.func47, Try.ntmps47
      go_wp2_with fail
      refine (HM.out).mono ?_
      rintro e w1 ⟨rfl, hb1⟩
      go_wp2_with (first | (go_at_call 89; refine (l1Set_c _ _).mono ?_; rintro e w2 ⟨rfl, rfl⟩; rw [HSI.out]) | fail)
      refine (HT2.out _ hb1).mono ?_
      rintro e w3 ⟨g, rfl, hrow, hb3⟩
      have cx := hrow x hx
      clear hrow
      go_wp2_with fail
      go_ret
      exact ⟨rfl, hb1.trans (hb3.mono hb1.size)⟩
  · have hcb : (c == 0) = false := by simp [hc]
    rw [show decide (c = 0) = false from decide_eq_false hc, Bool.false_and, Bool.false_and]
    clear hc
    go_enter Try.func47, Try.ntmps47
    go_wp2_with fail
    refine (HM.out).mono ?_
    rintro e w1 ⟨rfl, hb1⟩
    go_wp2_with fail
    go_ret
    exact ⟨rfl, hb1⟩

end Go.Proofs.Ytocdclgolhhckaa

namespace Go.Proofs.Ytocdclgolhhckaa
open Go.RowKit
set_option linter.unusedVariables false
set_option linter.unusedSimpArgs false

def GivesN (f : Nat) (a : Option Addr) (n cap : Nat) (a' : Option Addr) (m cap' : Nat) (c : Int) (ls : List Int) (w : World) : Prop := Calls Try.prog f #[.slice a n cap, .slice a' m cap'] w fun e w' => ∃ (a1 : Option Addr) (cap1 : Nat), e = .returned (.agg #[.int .i64 c, .slice a1 ls.length cap1]) ∧ w'.ownsRow w.heap.size 2 1 (.slice a1 ls.length cap1) ls.length (ls.map (Value.int .i64)) ∧ Below w.heap.size w w'

theorem sets_hit {T : TS} {k : Nat} (h : T k = true) : setsTo T (k + 1) = setsTo T k ++ [(k : Int)] := by rw [setsTo_next, if_pos h]
theorem sets_miss {T : TS} {k : Nat} (h : T k = false) : setsTo T (k + 1) = setsTo T k := by rw [setsTo_next, if_neg (by simp [h])]

set_option maxRecDepth 100000 in
set_option maxHeartbeats 2000000 in
theorem implSets_bad (a : Option Addr) (n cap : Nat) (zs : List RuleI) (a' : Option Addr) (m cap' : Nat) (ps : List PartI) (c : Int) (w : World) (hn : n ≤ 1048576) (hm : m ≤ 1048576) (hcap : n ≤ cap) (hcm : cap ≤ maxLen) (h : RulesIn w a n zs) (h' : PartsIn w a' m ps) (hc : manyCode zs ps = c) (h0 : c ≠ 0) :
    GivesN 41 a n cap a' m cap' c [] w := by
  have HM : Hid (∀ w2 : World, Below w.heap.size w w2 → Calls Try.prog 86 #[.slice a n cap, .slice a' m cap'] w2 fun e w' => e = .returned (.int .i64 c) ∧ Below w2.heap.size w2 w') := fun w2 q => by rw [← hc]; exact implMany_c a n cap zs a' m cap' ps w2 hn hm hcap hcm (h.below q) (h'.below q)
  have hcb : (c != 0) = true := by simpa using h0
  clear h h' hc h0
  unfold GivesN
  go_enter Try.func41, Try.ntmps41
  go_wp2_with fail
  refine (HM.out _ ((Below.refl _ _).alloc (Nat.le_refl _) _)).mono ?_
  rintro e w1 ⟨rfl, hb1⟩
  have d0 : w1.cell? ⟨w.heap.size, 0, none⟩ = some (.int .i64 0) := (hb1.cell (p := ⟨w.heap.size, 0, none⟩) (by simp)).trans (by simp)
  have d1 : w1.cell? ⟨w.heap.size, 1, none⟩ = some (.slice none 0 0) := (hb1.cell (p := ⟨w.heap.size, 1, none⟩) (by simp)).trans (by simp)
  have g0 : w1.frozen? ⟨w.heap.size, 0, none⟩ = false := (hb1.frozen (p := ⟨w.heap.size, 0, none⟩) (by simp)).trans (by simp [go_sem])
  have g1 : w1.frozen? ⟨w.heap.size, 1, none⟩ = false := (hb1.frozen (p := ⟨w.heap.size, 1, none⟩) (by simp)).trans (by simp [go_sem])
  have hw : w.heap.size < w1.heap.size := by have := hb1.size; simp at this; omega
  have hbx : Below w.heap.size w w1 := below_new hb1
  clear hb1
  go_wp2
  refine bodyPost_ret (v := .agg #[.int .i64 c, .slice none 0 0]) (by simp [results, Try.results41, go_sem, d0, d1, hw]) rfl ⟨none, 0, rfl, World.ownsRow_nil _ _ _ _, ?_⟩
  exact (hbx.setCell (Nat.le_refl _) _).setCell (Nat.le_refl _) _

set_option maxRecDepth 100000 in
set_option maxHeartbeats 4000000 in
theorem implSets_ok (a : Option Addr) (n cap : Nat) (zs : List RuleI) (a' : Option Addr) (m cap' : Nat) (ps : List PartI) (gs : List GrI) (w : World) (hn : n ≤ 1048576) (hm : m ≤ 1048576) (hcap : n ≤ cap) (hcm : cap ≤ maxLen) (h : RulesIn w a n zs) (h' : PartsIn w a' m ps) (hc : manyCode zs ps = 0) (hg : AllG zs gs) :
    GivesN 41 a n cap a' m cap' 0 (setsL (tellsL (ofG gs) ps)) w := by
  have HM : Hid (∀ w2 : World, Below w.heap.size w w2 → Calls Try.prog 86 #[.slice a n cap, .slice a' m cap'] w2 fun e w' => e = .returned (.int .i64 0) ∧ Below w2.heap.size w2 w') := fun w2 q => by rw [← hc]; exact implMany_c a n cap zs a' m cap' ps w2 hn hm hcap hcm (h.below q) (h'.below q)
  obtain ⟨T, hT⟩ : ∃ T, T = tellsL (ofG gs) ps := ⟨_, rfl⟩
  obtain ⟨cT, hcT⟩ : ∃ cT, cT = arrT T := ⟨_, rfl⟩
  have HT : Hid (∀ w2 : World, Below w.heap.size w w2 → Calls Try.prog 87 #[.slice a n cap, .slice a' m cap'] w2 fun e w' => e = .returned (.agg cT) ∧ Below w2.heap.size w2 w') := fun w2 q => by rw [hcT, hT]; exact toldBy_c a n cap zs a' m cap' ps gs w2 (h.below q) (many_zero hc).1 hg (h'.below q) (many_zero hc).2
  have HIX : Hid (∀ (x : Nat) (X : World), x < 256 → (Instr.index 117 (.agg cT) (.int .i64 (x : Int))).run Try.prog X = .ok (.bool (T x)) X) := fun x X hx => index_told cT x _ hx (by rw [hcT]; exact arrT_size T) (by rw [hcT]; exact arrT_at T hx) rfl X
  rw [← hT]
  obtain ⟨ls, hls⟩ : ∃ ls, ls = setsL T := ⟨_, rfl⟩
  rw [← hls]
  have HL : Hid (setsTo T 256 = ls) := hls.symm
  obtain ⟨i0, hi, hz0, hz1, hz2⟩ := info_parts Try.info2
  clear h h' hc hg hT hcT hls
  unfold GivesN
  go_enter Try.func41, Try.ntmps41
  go_wp2_with fail
  refine (HM.out _ ((Below.refl _ _).alloc (Nat.le_refl _) _)).mono ?_
  rintro e w1 ⟨rfl, hb1⟩
  have d0 : w1.cell? ⟨w.heap.size, 0, none⟩ = some (.int .i64 0) := (hb1.cell (p := ⟨w.heap.size, 0, none⟩) (by simp)).trans (by simp)
  have d1 : w1.cell? ⟨w.heap.size, 1, none⟩ = some (.slice none 0 0) := (hb1.cell (p := ⟨w.heap.size, 1, none⟩) (by simp)).trans (by simp)
  have g0 : w1.frozen? ⟨w.heap.size, 0, none⟩ = false := (hb1.frozen (p := ⟨w.heap.size, 0, none⟩) (by simp)).trans (by simp [go_sem])
  have g1 : w1.frozen? ⟨w.heap.size, 1, none⟩ = false := (hb1.frozen (p := ⟨w.heap.size, 1, none⟩) (by simp)).trans (by simp [go_sem])
  have hw : w.heap.size < w1.heap.size := by have := hb1.size; simp at this; omega
  have hbx : Below w.heap.size w w1 := below_new hb1
  have HBX : Hid ((w1.cell? ⟨w.heap.size, 0, none⟩ = some (.int .i64 0) ∧ w1.cell? ⟨w.heap.size, 1, none⟩ = some (.slice none 0 0)) ∧ w1.frozen? ⟨w.heap.size, 0, none⟩ = false ∧ w1.frozen? ⟨w.heap.size, 1, none⟩ = false) := ⟨⟨d0, d1⟩, g0, g1⟩
  clear hb1 d0 d1 g0 g1
  go_wp2_with fail
  refine (HT.out _ hbx).mono ?_
  rintro e W ⟨rfl, hb2⟩
  have hwW : w.heap.size < W.heap.size := Nat.lt_of_lt_of_le hw hb2.size
  have HBW : Hid (((W.cell? ⟨w.heap.size, 0, none⟩ = some (.int .i64 0) ∧ W.cell? ⟨w.heap.size, 1, none⟩ = some (.slice none 0 0)) ∧ W.frozen? ⟨w.heap.size, 0, none⟩ = false ∧ W.frozen? ⟨w.heap.size, 1, none⟩ = false) ∧ Below w.heap.size w W) :=
    ⟨⟨⟨(hb2.cell (p := ⟨w.heap.size, 0, none⟩) hw).trans HBX.out.1.1, (hb2.cell (p := ⟨w.heap.size, 1, none⟩) hw).trans HBX.out.1.2⟩, (hb2.frozen (p := ⟨w.heap.size, 0, none⟩) hw).trans HBX.out.2.1, (hb2.frozen (p := ⟨w.heap.size, 1, none⟩) hw).trans HBX.out.2.2⟩, hbx.trans (hb2.mono hbx.size)⟩
  clear hb2 HBX hbx hw
  go_wp2_with fail
  go_loopw [6, 19] (fun v i wr => ∃ k : Nat, k ≤ 256 ∧ i = .int .i64 (k : Int) ∧ Hid (wr.ownsRow W.heap.size 2 1 v (setsTo T k).length ((setsTo T k).map (Value.int .i64)) ∧ Below W.heap.size W wr)) (fun _ i _ => 256 - (intOf i).toNat)
  case atStart => exact ⟨0, by omega, rfl, World.ownsRow_nil _ _ _ _, Below.refl _ _⟩
  case round =>
    obtain ⟨k, hk, rfl, HK⟩ := hrel
    have hkl := setsTo_len T k
    by_cases hlt : k < 256
    · have hlt' : (k : Int) < 256 := by omega
      have hix := HIX.out k wr hlt
      obtain ⟨t, ht⟩ : ∃ t, T k = t := ⟨_, rfl⟩
      have HTk : Hid (T k = t) := ht
      rw [ht] at hix
      clear ht
      cases t
      · have HN : Hid (wr.ownsRow W.heap.size 2 1 u6 (setsTo T (k + 1)).length ((setsTo T (k + 1)).map (Value.int .i64)) ∧ Below W.heap.size W wr) := by rw [sets_miss HTk.out]; exact HK.out
        go_wp2_with fail
        exact ⟨⟨k + 1, by omega, by go_num, HN⟩, by simp [intOf]; omega⟩
      · go_wp2_with (first
          | (at_builtin; refine wpList_append_own _ rfl _ _ 53 rfl W.heap.size 2 i0 (.int .i64 0) 1 8 Try.underlying53 hi hz0 hz1 hz2 rfl (by decide) _ _ _ rfl (HK.out.1.alloc _) ⟨wr.heap.size, 0, none⟩ 1 1 [.int .i64 (k : Int)] rfl rfl ?c1 ?c2 ?c3 ?c4 ?c5 ?_)
          | fail)
        case c1 =>
          intro j u hj
          match j, hj with
          | 0, hj => simp at hj; subst hj; simp [Addr.add]
        case c2 => intro u hu; simp at hu; subst hu; rfl
        case c3 => unfold maxLen; omega
        case c4 => omega
        case c5 => have := HK.out.2.size; simp; omega
        intro v' w9 hown' hgrow hnil
        have HN : Hid (w9.ownsRow W.heap.size 2 1 v' (setsTo T (k + 1)).length ((setsTo T (k + 1)).map (Value.int .i64)) ∧ Below W.heap.size W w9) := by
          rw [sets_hit HTk.out]
          refine ⟨by simpa using hown', (HK.out.2.alloc HK.out.2.size _).grown hgrow (by have := HK.out.2.size; simp; omega) (fun j hj => (HK.out.1.lt j hj).1)⟩
        clear hnil hown' hgrow
        go_wp2_with fail
        exact ⟨⟨k + 1, by omega, by go_num, HN⟩, by simp [intOf]; omega⟩
    · have hke : k = 256 := by omega
      subst hke
      obtain ⟨⟨⟨e0, e1⟩, f0, f1⟩, hbW⟩ := HBW.out
      have hbr := HK.out.2
      have d0 := (hbr.cell (p := ⟨w.heap.size, 0, none⟩) hwW).trans e0
      have d1 := (hbr.cell (p := ⟨w.heap.size, 1, none⟩) hwW).trans e1
      have g0 := (hbr.frozen (p := ⟨w.heap.size, 0, none⟩) hwW).trans f0
      have g1 := (hbr.frozen (p := ⟨w.heap.size, 1, none⟩) hwW).trans f1
      have hw : w.heap.size < wr.heap.size := Nat.lt_of_lt_of_le hwW hbr.size
      have HB : Hid (Below w.heap.size w wr) := hbW.trans (hbr.mono hbW.size)
      obtain ⟨va, vc, hve⟩ := owns_slice HK.out.1
      rw [HL.out] at hve
      have HO : Hid (wr.ownsRow W.heap.size 2 1 (.slice va ls.length vc) ls.length (ls.map (Value.int .i64))) := by have := HK.out.1; rw [HL.out, hve] at this; exact this
      subst hve
      clear HK hbr e0 e1 f0 f1 hbW HBW hkl
      go_wp2
      refine bodyPost_ret (v := .agg #[.int .i64 0, .slice va ls.length vc]) (by simp [results, Try.results41, go_sem, d0, d1, hw]) rfl ⟨va, vc, rfl, owns_box1 HO.out hwW, ?_⟩
      exact (HB.out.setCell (Nat.le_refl _) _).setCell (Nat.le_refl _) _

set_option maxRecDepth 100000 in
set_option maxHeartbeats 2000000 in
theorem specSets_bad (a : Option Addr) (n cap : Nat) (zs : List RuleI) (a' : Option Addr) (m cap' : Nat) (ps : List PartI) (c : Int) (w : World) (hn : n ≤ 1048576) (hm : m ≤ 1048576) (h : RulesIn w a n zs) (h' : PartsIn w a' m ps) (hc : manyCode zs ps = c) (h0 : c ≠ 0) :
    GivesN 39 a n cap a' m cap' c [] w := by
  have HM : Hid (∀ w2 : World, Below w.heap.size w w2 → Calls Try.prog 83 #[.slice a n cap, .slice a' m cap'] w2 fun e w' => e = .returned (.int .i64 c) ∧ Below w2.heap.size w2 w') := fun w2 q => by rw [← hc]; exact specAsked_c a n cap zs a' m cap' ps w2 hn hm (h.below q) (h'.below q)
  have hcb : (c != 0) = true := by simpa using h0
  clear h h' hc h0
  unfold GivesN
  go_enter Try.func39, Try.ntmps39
  go_wp2_with fail
  refine (HM.out _ ((Below.refl _ _).alloc (Nat.le_refl _) _)).mono ?_
  rintro e w1 ⟨rfl, hb1⟩
  have d0 : w1.cell? ⟨w.heap.size, 0, none⟩ = some (.int .i64 0) := (hb1.cell (p := ⟨w.heap.size, 0, none⟩) (by simp)).trans (by simp)
  have d1 : w1.cell? ⟨w.heap.size, 1, none⟩ = some (.slice none 0 0) := (hb1.cell (p := ⟨w.heap.size, 1, none⟩) (by simp)).trans (by simp)
  have g0 : w1.frozen? ⟨w.heap.size, 0, none⟩ = false := (hb1.frozen (p := ⟨w.heap.size, 0, none⟩) (by simp)).trans (by simp [go_sem])
  have g1 : w1.frozen? ⟨w.heap.size, 1, none⟩ = false := (hb1.frozen (p := ⟨w.heap.size, 1, none⟩) (by simp)).trans (by simp [go_sem])
  have hw : w.heap.size < w1.heap.size := by have := hb1.size; simp at this; omega
  have hbx : Below w.heap.size w w1 := below_new hb1
  clear hb1
  go_wp2
  refine bodyPost_ret (v := .agg #[.int .i64 c, .slice none 0 0]) (by simp [results, Try.results39, go_sem, d0, d1, hw]) rfl ⟨none, 0, rfl, World.ownsRow_nil _ _ _ _, ?_⟩
  exact (hbx.setCell (Nat.le_refl _) _).setCell (Nat.le_refl _) _

/-- The list that grows in a box, and the rest as it was. -/
structure OB (W : World) (O : Nat) (ls : List Int) (v : Value) (wr : World) : Prop where
  c0 : wr.cell? ⟨O, 0, none⟩ = some (.int .i64 0)
  c1 : wr.cell? ⟨O, 1, none⟩ = some v
  f0 : wr.frozen? ⟨O, 0, none⟩ = false
  f1 : wr.frozen? ⟨O, 1, none⟩ = false
  ow : wr.ownsRow W.heap.size 2 1 v ls.length (ls.map (Value.int .i64))
  gr : W.grownBy wr (some O)

set_option maxRecDepth 100000 in
set_option maxHeartbeats 4000000 in
theorem specSets_ok (a : Option Addr) (n cap : Nat) (zs : List RuleI) (a' : Option Addr) (m cap' : Nat) (ps : List PartI) (gs : List GrI) (w : World) (hn : n ≤ 1048576) (hm : m ≤ 1048576) (h : RulesIn w a n zs) (h' : PartsIn w a' m ps) (hc : manyCode zs ps = 0) (hg : AllG zs gs) :
    GivesN 39 a n cap a' m cap' 0 (setsL (tellsL (ofG gs) ps)) w := by
  have HM : Hid (∀ w2 : World, Below w.heap.size w w2 → Calls Try.prog 83 #[.slice a n cap, .slice a' m cap'] w2 fun e w' => e = .returned (.int .i64 0) ∧ Below w2.heap.size w2 w') := fun w2 q => by rw [← hc]; exact specAsked_c a n cap zs a' m cap' ps w2 hn hm (h.below q) (h'.below q)
  obtain ⟨T, hT⟩ : ∃ T, T = tellsL (ofG gs) ps := ⟨_, rfl⟩
  have HT : Hid (∀ w2 : World, Below w.heap.size w w2 → Calls Try.prog 84 #[.slice a n cap, .slice a' m cap'] w2 fun e w' => ∃ g, e = .returned (.slice (some ⟨g, 0, none⟩) 256 256) ∧ RowF w' g T ∧ Below w2.heap.size w2 w') := fun w2 q => by rw [hT]; exact l4Sets_c a n cap zs a' m cap' ps gs w2 (h.below q) (many_zero hc).1 hg (h'.below q) (many_zero hc).2
  rw [← hT]
  obtain ⟨ls, hls⟩ : ∃ ls, ls = setsL T := ⟨_, rfl⟩
  rw [← hls]
  have HL : Hid (setsTo T 256 = ls) := hls.symm
  obtain ⟨i0, hi, hz0, hz1, hz2⟩ := info_parts Try.info2
  clear h h' hc hg hT hls
  unfold GivesN
  go_enter Try.func39, Try.ntmps39
  go_wp2_with fail
  refine (HM.out _ ((Below.refl _ _).alloc (Nat.le_refl _) _)).mono ?_
  rintro e w1 ⟨rfl, hb1⟩
  have hw1 : w.heap.size < w1.heap.size := by have := hb1.size; simp at this; omega
  have hbx : Below w.heap.size w w1 := below_new hb1
  have HR1 : Hid ((w1.cell? ⟨w.heap.size, 0, none⟩ = some (.int .i64 0) ∧ w1.cell? ⟨w.heap.size, 1, none⟩ = some (.slice none 0 0)) ∧ w1.frozen? ⟨w.heap.size, 0, none⟩ = false ∧ w1.frozen? ⟨w.heap.size, 1, none⟩ = false) :=
    ⟨⟨(hb1.cell (p := ⟨w.heap.size, 0, none⟩) (by simp)).trans (by simp), (hb1.cell (p := ⟨w.heap.size, 1, none⟩) (by simp)).trans (by simp)⟩, (hb1.frozen (p := ⟨w.heap.size, 0, none⟩) (by simp)).trans (by simp [go_sem]), (hb1.frozen (p := ⟨w.heap.size, 1, none⟩) (by simp)).trans (by simp [go_sem])⟩
  clear hb1
  have hbo : Below w.heap.size w (w1.alloc (.cells #[.int .i64 0, .slice none 0 0] 62)) := hbx.alloc hbx.size _
  go_wp2_with fail
  refine (HT.out _ hbo).mono ?_
  rintro e W ⟨g, rfl, hrow, hb2⟩
  obtain ⟨O, hO⟩ : ∃ O, O = w1.heap.size := ⟨_, rfl⟩
  have A2 : Below w1.heap.size w1 (w1.alloc (.cells #[.int .i64 0, .slice none 0 0] 62)) := (Below.refl _ _).alloc (Nat.le_refl _) _
  have hb12 : Below w1.heap.size w1 W := A2.trans (hb2.mono (by simp))
  have hOW : O < W.heap.size := by have := hb2.size; simp at this; omega
  have hwO : w.heap.size < O := by omega
  have HRW : Hid (((W.cell? ⟨w.heap.size, 0, none⟩ = some (.int .i64 0) ∧ W.cell? ⟨w.heap.size, 1, none⟩ = some (.slice none 0 0)) ∧ W.frozen? ⟨w.heap.size, 0, none⟩ = false ∧ W.frozen? ⟨w.heap.size, 1, none⟩ = false) ∧ Below w.heap.size w W) :=
    ⟨⟨⟨(hb12.cell (p := ⟨w.heap.size, 0, none⟩) hw1).trans HR1.out.1.1, (hb12.cell (p := ⟨w.heap.size, 1, none⟩) hw1).trans HR1.out.1.2⟩, (hb12.frozen (p := ⟨w.heap.size, 0, none⟩) hw1).trans HR1.out.2.1, (hb12.frozen (p := ⟨w.heap.size, 1, none⟩) hw1).trans HR1.out.2.2⟩, hbx.trans (hb12.mono hbx.size)⟩
  have HOB : Hid (OB W O [] (.slice none 0 0) W) := by
    rw [hO]
    exact ⟨(hb2.cell (p := ⟨w1.heap.size, 0, none⟩) (by simp)).trans (by simp), (hb2.cell (p := ⟨w1.heap.size, 1, none⟩) (by simp)).trans (by simp), (hb2.frozen (p := ⟨w1.heap.size, 0, none⟩) (by simp)).trans (by simp [go_sem]), (hb2.frozen (p := ⟨w1.heap.size, 1, none⟩) (by simp)).trans (by simp [go_sem]), World.ownsRow_nil _ _ _ _, World.grownBy.refl _ _⟩
  have HRF : Hid (RowF W g T) := hrow
  have hgO : g ≠ O := by
    intro e
    have h1 := hrow 0 (by omega)
    have h2 := HOB.out.c0
    rw [e, h2] at h1
    cases h1
  rw [← hO]
  clear hrow hb2 A2 hb12 hbo hbx HR1 hw1 hO
  go_wp2_with fail
  go_loopw [8] (fun i wr => ∃ (k : Nat) (v : Value), k ≤ 256 ∧ i = .int .i64 (k : Int) ∧ Hid (OB W O (setsTo T k) v wr)) (fun i _ => 256 - (intOf i).toNat)
  case atStart => exact ⟨0, _, by omega, rfl, HOB⟩
  case round =>
    obtain ⟨k, v, hk, rfl, HK⟩ := hrel
    have hkl := setsTo_len T k
    by_cases hlt : k < 256
    · have hlt' : (k : Int) < 256 := by omega
      have cx : wr.cell? ⟨g, k, none⟩ = some (.bool (T k)) := (HRF.out.kept HK.out.gr (by simp [hgO])) k hlt
      obtain ⟨t, ht⟩ : ∃ t, T k = t := ⟨_, rfl⟩
      have HTk : Hid (T k = t) := ht
      rw [ht] at cx
      clear ht
      cases t
      · have HN : Hid (OB W O (setsTo T (k + 1)) v wr) := by rw [sets_miss HTk.out]; exact HK.out
        go_wp2_with fail
        exact ⟨⟨k + 1, v, by omega, by go_num, HN⟩, by simp [intOf]; omega⟩
      · have y1 := HK.out.c1
        go_wp2_with (first
          | (at_builtin; refine wpList_append_own _ rfl _ _ 53 rfl W.heap.size 2 i0 (.int .i64 0) 1 8 Try.underlying53 hi hz0 hz1 hz2 rfl (by decide) _ _ _ rfl (HK.out.ow.alloc _) ⟨wr.heap.size, 0, none⟩ 1 1 [.int .i64 (k : Int)] rfl rfl ?c1 ?c2 ?c3 ?c4 ?c5 ?_)
          | fail)
        case c1 =>
          intro j u hj
          match j, hj with
          | 0, hj => simp at hj; subst hj; simp [Addr.add]
        case c2 => intro u hu; simp at hu; subst hu; rfl
        case c3 => unfold maxLen; omega
        case c4 => omega
        case c5 => have := HK.out.gr.size; simp; omega
        intro v' w9 hown' hgrow hnil
        have A1 : Below wr.heap.size wr (wr.alloc (.cells #[.int .i64 (k : Int)] 2)) := (Below.refl _ _).alloc (Nat.le_refl _) _
        have hOr : O < wr.heap.size := Nat.lt_of_lt_of_le hOW HK.out.gr.size
        have hne : some O ≠ v.ownBlock := fun e => by have := (HK.out.ow.lt O e.symm).1; omega
        have z0 : w9.cell? ⟨O, 0, none⟩ = some (.int .i64 0) := hgrow.cell ((A1.cell (p := ⟨O, 0, none⟩) hOr).trans HK.out.c0) hne
        have z1 : w9.cell? ⟨O, 1, none⟩ = some v := hgrow.cell ((A1.cell (p := ⟨O, 1, none⟩) hOr).trans HK.out.c1) hne
        have hblk : w9.heap[O]? = wr.heap[O]? := (hgrow.block O (by simp; omega) hne).trans (A1.block O hOr)
        have y0f : w9.frozen? ⟨O, 0, none⟩ = false := by have := HK.out.f0; unfold World.frozen? at this ⊢; simp only at this ⊢; rw [hblk]; exact this
        have y1f : w9.frozen? ⟨O, 1, none⟩ = false := by have := HK.out.f1; unfold World.frozen? at this ⊢; simp only at this ⊢; rw [hblk]; exact this
        have HN : Hid (OB W O (setsTo T (k + 1)) v' (w9.setCell ⟨O, 1, none⟩ v')) := by
          rw [sets_hit HTk.out]
          have g9 : W.grownBy w9 (some O) := by
            refine ⟨hgrow.os.trans HK.out.gr.os, hgrow.tape.trans HK.out.gr.tape, hgrow.output.trans HK.out.gr.output, Nat.le_trans HK.out.gr.size (Nat.le_trans (by simp) hgrow.size), fun q hq hqO => ?_⟩
            have hq2 : q < wr.heap.size := Nat.lt_of_lt_of_le hq HK.out.gr.size
            refine ((hgrow.block q (by simp; omega) (fun e => ?_)).trans (A1.block q hq2)).trans (HK.out.gr.block q hq hqO)
            have := (HK.out.ow.lt q e.symm).1
            omega
          refine ⟨?_, ?_, by rw [World.frozen?_setCell]; exact y0f, by rw [World.frozen?_setCell]; exact y1f, ?_, ?_⟩
          · simp [go_sem, z0]
          · simp [go_sem, z1]
          · exact ownsRow_setCell_below (a := ⟨O, 1, none⟩) (by simpa using hown') hOW v'
          · exact ⟨g9.os, g9.tape, g9.output, by rw [World.size_setCell]; exact g9.size, fun q hq hqO => (Below.heap_setCell _ _ _ _ (by intro e; exact hqO (by rw [e]))).trans (g9.block q hq hqO)⟩
        obtain ⟨va', vc', hv'⟩ := owns_slice hown'
        clear hnil hown' hgrow A1 hne hblk
        subst hv'
        go_wp2_with fail
        exact ⟨⟨k + 1, _, by omega, by go_num, HN⟩, by simp [intOf]; omega⟩
    · have hke : k = 256 := by omega
      subst hke
      obtain ⟨⟨⟨e0, e1⟩, f0, f1⟩, hbW⟩ := HRW.out
      have hgr := HK.out.gr
      have hwW : w.heap.size < W.heap.size := by omega
      have hne : some w.heap.size ≠ some O := by simp; omega
      have d0 : wr.cell? ⟨w.heap.size, 0, none⟩ = some (.int .i64 0) := hgr.cell e0 hne
      have d1 : wr.cell? ⟨w.heap.size, 1, none⟩ = some (.slice none 0 0) := hgr.cell e1 hne
      have hblk := hgr.block w.heap.size hwW hne
      have g0 : wr.frozen? ⟨w.heap.size, 0, none⟩ = false := by unfold World.frozen? at f0 ⊢; simp only at f0 ⊢; rw [hblk]; exact f0
      have g1 : wr.frozen? ⟨w.heap.size, 1, none⟩ = false := by unfold World.frozen? at f1 ⊢; simp only at f1 ⊢; rw [hblk]; exact f1
      have hw : w.heap.size < wr.heap.size := Nat.lt_of_lt_of_le hwW hgr.size
      have HB : Hid (Below w.heap.size w wr) := hbW.grown hgr hbW.size (fun q e => by cases e; omega)
      obtain ⟨va, vc, hve⟩ := owns_slice HK.out.ow
      rw [HL.out] at hve
      have HO : Hid (wr.ownsRow W.heap.size 2 1 (.slice va ls.length vc) ls.length (ls.map (Value.int .i64))) := by have := HK.out.ow; rw [HL.out, hve] at this; exact this
      have y0 := HK.out.c0
      have y1 := HK.out.c1
      subst hve
      clear HK hgr e0 e1 f0 f1 hbW HRW hkl hblk hne
      go_wp2
      refine bodyPost_ret (v := .agg #[.int .i64 0, .slice va ls.length vc]) (by simp [results, Try.results39, go_sem, d0, d1, hw]) rfl ⟨va, vc, rfl, owns_box1 HO.out hwW, ?_⟩
      exact (HB.out.setCell (Nat.le_refl _) _).setCell (Nat.le_refl _) _

end Go.Proofs.Ytocdclgolhhckaa

namespace Go.Proofs.Ytocdclgolhhckaa
open Go.RowKit
set_option linter.unusedVariables false
set_option linter.unusedSimpArgs false

theorem Room5.set {w : World} {g n : Nat} (h : Room5 w g n) (o : Nat) (v : Value) : Room5 (w.setCell ⟨g, o, none⟩ v) g n := by
  refine ⟨fun j hj => ?_, fun j => by simp only [World.frozen?_setCell]; exact h.2 j⟩
  obtain ⟨u, e⟩ := h.1 j hj
  by_cases q : j = o
  · subst q
    exact ⟨v, by simp [go_sem, e]⟩
  · exact ⟨u, by rw [World.cell?_setCell_other (h := fun e => q (by have := congrArg Addr.off e; simp at this; omega))]; exact e⟩

set_option maxHeartbeats 2000000 in
theorem markPartsR_c (g n cap : Nat) (k0 : Int) (w : World) (hn : n ≤ 1048576) (h0 : 0 ≤ k0) (h1 : k0 ≤ 100000000) (h : Room5 w g n) :
    Calls Try.prog 44 #[.slice (some ⟨g, 0, none⟩) n cap, .int .i64 k0] w fun e w' => e = .returned (.int .i64 (k0 + 5 * (n : Int))) ∧ w.grownBy w' (some g) := by
  have HO : Hid (Room5 w g n) := h
  clear h
  have hn' : (n : Int) ≤ 1048576 := by omega
  go_enter Try.func44, Try.ntmps44
  go_wp2
  go_loopw [1, 5] (fun q i wr => ∃ (j : Nat), j ≤ n ∧ i = .int .i64 (j : Int) ∧ q = .int .i64 (k0 + 5 * (j : Int)) ∧ Room5 wr g n ∧ w.grownBy wr (some g))
    (fun _ i _ => n - (intOf i).toNat)
  case atStart => exact ⟨0, Nat.zero_le _, rfl, by simp, HO.out, grown_refl _ _⟩
  case round =>
    obtain ⟨j, hj, rfl, rfl, hroom, hgr⟩ := hrel
    have HG : Hid (Room5 wr g n ∧ w.grownBy wr (some g)) := ⟨hroom, hgr⟩
    by_cases hlt : j < n
    · obtain ⟨v0, c0⟩ := hroom.1 (j * 5) (by omega)
      obtain ⟨v1, c1⟩ := hroom.1 (j * 5 + 1) (by omega)
      obtain ⟨v2, c2⟩ := hroom.1 (j * 5 + 2) (by omega)
      obtain ⟨v3, c3⟩ := hroom.1 (j * 5 + 3) (by omega)
      obtain ⟨v4, c4⟩ := hroom.1 (j * 5 + 4) (by omega)
      have f0 := hroom.2 (j * 5)
      have f1 := hroom.2 (j * 5 + 1)
      have f2 := hroom.2 (j * 5 + 2)
      have f3 := hroom.2 (j * 5 + 3)
      have f4 := hroom.2 (j * 5 + 4)
      clear hroom hgr
      have hlt' : (j : Int) < (n : Int) := by omega
      go_wp2
      refine ⟨⟨j + 1, by omega, by go_num, ?_, ?_, ?_⟩, by simp [intOf]; omega⟩
      · congr 1; omega
      · exact ((((HG.out.1.set _ _).set _ _).set _ _).set _ _).set _ _
      · exact grown_tr (grown_tr (grown_tr (grown_tr (grown_tr HG.out.2 (grown_set _ _ _ _)) (grown_set _ _ _ _)) (grown_set _ _ _ _)) (grown_set _ _ _ _)) (grown_set _ _ _ _)
    · have hjn : j = n := by omega
      subst hjn
      go_wp2
      go_ret
      exact ⟨rfl, hgr⟩

set_option maxHeartbeats 400000 in
theorem eqSets_same (c : Int) (a b : Option Addr) (n ca cb : Nat) (zs : List Int) (w : World) (hn : n ≤ 1048576) (ha : RowIn w a n zs) (hb : RowIn w b n zs) :
    Calls Try.prog 42 #[.agg #[.int .i64 c, .slice a n ca], .agg #[.int .i64 c, .slice b n cb]] w fun e w' => e = .returned (.bool true) ∧ Below w.heap.size w w' := by
  have B0 : Below w.heap.size w ((w.alloc (.cells #[.int .i64 c, .slice a n ca] 62)).alloc (.cells #[.int .i64 c, .slice b n cb] 62)) := ((Below.refl _ _).alloc (Nat.le_refl _) _).alloc (by simp) _
  have HA : Hid (RowIn ((w.alloc (.cells #[.int .i64 c, .slice a n ca] 62)).alloc (.cells #[.int .i64 c, .slice b n cb] 62)) a n zs) := ha.below B0
  have HB : Hid (RowIn ((w.alloc (.cells #[.int .i64 c, .slice a n ca] 62)).alloc (.cells #[.int .i64 c, .slice b n cb] 62)) b n zs) := hb.below B0
  have HB0 : Hid (Below w.heap.size w ((w.alloc (.cells #[.int .i64 c, .slice a n ca] 62)).alloc (.cells #[.int .i64 c, .slice b n cb] 62))) := B0
  clear ha hb B0
  go_enter Try.func42, Try.ntmps42
  go_wp2_with (go_at_call 80; refine (eqS_same _ _ n _ _ zs _ hn HA.out.2 HB.out.2).mono ?_; rintro e w1 ⟨rfl, hb1⟩)
  go_ret
  exact ⟨rfl, HB0.out.trans (hb1.mono (by simp; omega))⟩

set_option maxHeartbeats 400000 in
theorem markSets1 (c : Int) (b : Nat) (a : Option Addr) (n cap : Nat) (xs : List Value) (w : World) (hn : n ≤ 1048576) (hown : w.ownsRow b 2 1 (.slice a n cap) n xs) :
    Calls Try.prog 45 #[.agg #[.int .i64 c, .slice a n cap], .int .i64 1] w fun e w' => e = .returned (.int .i64 (1 + (n : Int))) ∧ w'.ownsRow b 2 1 (.slice a n cap) n ((marks 1 n).map (Value.int .i64)) ∧ w.grownBy w' (Value.slice a n cap).ownBlock := by
  have HO : Hid ((w.alloc (.cells #[.int .i64 c, .slice a n cap] 62)).ownsRow b 2 1 (.slice a n cap) n xs) := hown.alloc _
  clear hown
  go_enter Try.func45, Try.ntmps45
  go_wp2_with (go_at_call 81; refine (mark_c 1 b a n cap xs _ (by omega) hn HO.out).mono ?_; rintro e w1 ⟨rfl, hown1, hg1⟩)
  go_ret
  refine ⟨rfl, hown1, ⟨hg1.os, hg1.tape, hg1.output, ?_, fun q hq hne => ?_⟩⟩
  · have := hg1.size; simp at this; omega
  · exact (hg1.block q (by simp; omega) hne).trans (Below.heap_alloc _ _ _ hq)

set_option maxHeartbeats 400000 in
theorem heldSets1 (c : Int) (a : Option Addr) (n cap : Nat) (w : World) (hn : n ≤ 1048576) (hr : RowIn w a n (marks 1 n)) :
    Calls Try.prog 46 #[.agg #[.int .i64 c, .slice a n cap], .int .i64 1] w fun e w' => e = .returned (.int .i64 (1 + (n : Int))) ∧ Below w.heap.size w w' := by
  have HR : Hid (RowIn (w.alloc (.cells #[.int .i64 c, .slice a n cap] 62)) a n (marks 1 n)) := hr.below ((Below.refl _ _).alloc (Nat.le_refl _) _)
  clear hr
  have hkn : decide (((1 + n : Nat) : Int) < 0) = false := by simp; omega
  go_enter Try.func46, Try.ntmps46
  go_wp2_with (go_at_call 82; refine (held_c 1 a n cap _ (by omega) hn HR.out).mono ?_; rintro e w1 ⟨rfl, rfl⟩)
  go_ret
  exact ⟨rfl, (Below.refl _ _).alloc (Nat.le_refl _) _⟩

/-- What the law keeps: its arguments, and the first result in its box. -/
structure SQ (w : World) (a0 : Option Addr) (len : Nat) (zs : List RuleI) (b0 : Option Addr) (m : Nat) (gs : List PartI) (B1 : Nat) (c : Int) (a1 : Option Addr) (cap1 : Nat) (ys : List Int) (W : World) : Prop where
  bl : Below w.heap.size w W
  ru : RulesIn W a0 len zs
  gr : PartsIn W b0 m gs
  bx : Box2 W B1 (.int .i64 c) (.slice a1 ys.length cap1)
  vw : RowIn W a1 ys.length ys

theorem SQ.below {w : World} {a0 : Option Addr} {len : Nat} {zs : List RuleI} {b0 : Option Addr} {m : Nat} {gs : List PartI} {B1 : Nat} {c : Int} {a1 : Option Addr} {cap1 : Nat} {ys : List Int} {W W' : World} (h : SQ w a0 len zs b0 m gs B1 c a1 cap1 ys W) (hb : Below W.heap.size W W') : SQ w a0 len zs b0 m gs B1 c a1 cap1 ys W' :=
  ⟨h.bl.trans (hb.mono h.bl.size), h.ru.below hb, h.gr.below hb, h.bx.below hb, h.vw.below hb⟩

theorem SQ.grown {w : World} {a0 : Option Addr} {len : Nat} {zs : List RuleI} {b0 : Option Addr} {m : Nat} {gs : List PartI} {B1 : Nat} {c : Int} {a1 : Option Addr} {cap1 : Nat} {ys : List Int} {W W' : World} {row : Option Nat} (N : Nat) (h : SQ w a0 len zs b0 m gs B1 c a1 cap1 ys W) (hg : W.grownBy W' row)
    (hlr : ∀ b off, a0 = some ⟨b, off, none⟩ → len = 0 ∨ b < w.heap.size) (hlg : ∀ b off, b0 = some ⟨b, off, none⟩ → m = 0 ∨ b < w.heap.size)
    (hrow : ∀ q, row = some q → N ≤ q) (hN : w.heap.size ≤ N) (hB : B1 < N) (hV : ∀ g off, a1 = some ⟨g, off, none⟩ → ys.length = 0 ∨ g < N) : SQ w a0 len zs b0 m gs B1 c a1 cap1 ys W' := by
  refine ⟨h.bl.grown hg h.bl.size (fun q e => by have := hrow q e; omega), rulesIn_kept h.ru hg hlr (fun q e => by have := hrow q e; omega), partsIn_kept h.gr hg hlg (fun q e => by have := hrow q e; omega),
    h.bx.grown hg (fun e => by have := hrow _ e.symm; omega), h.vw.kept0 hg hrow hV⟩

end Go.Proofs.Ytocdclgolhhckaa
