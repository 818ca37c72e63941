/-
  CONTRACTS: GrantsOf of both programs, at every slice of rules.
  Conditions: each contract bears its own.
-/
import Derived.Test.YtnmidppiakdanaaGs1
import Derived.Test.YtnmidppiakdanaaGr6
import Derived.Test.YtnmidppiakdanaaSe1
import Derived.Test.YtnmidppiakdanaaMp7
import Derived.Test.YtnmidppiakdanaaMp8
import Derived.Test.YtnmidppiakdanaaRol3
import Derived.Test.YtnmidppiakdanaaPol5
namespace Go.Proofs.Ytnmidppiakdanaa
open Go.RowKit
set_option linter.unusedVariables false
set_option linter.unusedSimpArgs false

def GivesG (f : Nat) (a : Option Addr) (n cap : Nat) (c : Int) (ys : List GrI) (w : World) : Prop := Calls Try.prog f #[.slice a n cap] w fun e w' => ∃ (a' : Option Addr) (cap' : Nat), e = .returned (.agg #[.int .i64 c, .slice a' ys.length cap']) ∧ Own3 w' w.heap.size (.slice a' ys.length cap') ys ∧ Below w.heap.size w w'

theorem all_some (zs : List RuleI) (hc : polCode zs = 0) : ∃ gs, AllG zs gs := by
  have hz : ∀ z ∈ zs, okR z := fun z h => ((pol_ok hc).2 z h).1
  obtain ⟨n, _, h⟩ := it_ends hz
  exact ⟨_, allG_it hz h⟩

set_option maxHeartbeats 1000000 in
theorem specGrantsOf_bad (a : Option Addr) (n cap : Nat) (zs : List RuleI) (c : Int) (w : World) (hn : n ≤ 1048576) (h : RulesIn w a n zs) (hc : polCode zs = c) (h0 : c ≠ 0) : GivesG 16 a n cap c [] w := by
  have H : Hid (RulesIn (w.alloc (.cells #[.int .i64 0, .slice none 0 0] 29)) a n zs) := h.below ((Below.refl _ _).alloc (Nat.le_refl _) _)
  have HC : Hid (polCode zs = c) := hc
  clear h hc
  have hcn : (c != 0) = true := by simpa using h0
  unfold GivesG
  go_enter Try.func16, Try.ntmps16
  go_wp2_with fail
  refine (l2Fault_c a n cap zs _ hn H.out).mono ?_
  rintro e w1 ⟨rfl, hb1⟩
  rw [HC.out]
  have hBx : Below w.heap.size w w1 := below_new hb1
  have hw : w.heap.size < w1.heap.size := by have := hb1.size; simp only [World.size_alloc] at this; omega
  have c0 : w1.cell? ⟨w.heap.size, 0, none⟩ = some (.int .i64 0) := (hb1.cell (p := ⟨w.heap.size, 0, none⟩) (by simp)).trans (by simp)
  have c1 : w1.cell? ⟨w.heap.size, 1, none⟩ = some (.slice none 0 0) := (hb1.cell (p := ⟨w.heap.size, 1, none⟩) (by simp)).trans (by simp)
  have f0 : w1.frozen? ⟨w.heap.size, 0, none⟩ = false := (hb1.frozen (p := ⟨w.heap.size, 0, none⟩) (by simp)).trans (by simp [go_sem])
  have f1 : w1.frozen? ⟨w.heap.size, 1, none⟩ = false := (hb1.frozen (p := ⟨w.heap.size, 1, none⟩) (by simp)).trans (by simp [go_sem])
  clear hb1
  go_wp2
  refine bodyPost_ret (v := .agg #[.int .i64 c, .slice none 0 0]) (by simp [results, Try.results16, go_sem, c0, c1, hw]) rfl ⟨none, 0, rfl, World.ownsRow_nil _ _ _ _, ?_⟩
  exact hBx |>.setCell (Nat.le_refl _) _ |>.setCell (Nat.le_refl _) _

theorem pol_n16 {zs : List RuleI} {n : Nat} (h : zs.length = n) (hc : polCode zs = 0) : n ≤ 16 := by
  unfold polCode at hc
  split at hc
  · simp at hc
  · omega

theorem Own3.box {w : World} {B b0 : Nat} {v x y : Value} {gs : List GrI} (h : Own3 w B v gs) (hB : b0 < B) : Own3 ((w.setCell ⟨b0, 0, none⟩ x).setCell ⟨b0, 1, none⟩ y) b0 v gs := by
  have h6 : Own3 w (b0 + 1) v gs := owns_lower3 h (by omega)
  have h7 := ownsRow_setCell_below (ownsRow_setCell_below h6 (a := ⟨b0, 0, none⟩) (by simp) x) (a := ⟨b0, 1, none⟩) (by simp) y
  exact owns_lower3 h7 (by omega)

set_option maxHeartbeats 1000000 in
theorem specGrantsOf_ok (a : Option Addr) (n cap : Nat) (zs : List RuleI) (gs : List GrI) (w : World) (h : RulesIn w a n zs) (hc : polCode zs = 0) (hg : AllG zs gs) : GivesG 16 a n cap 0 gs w := by
  have hn : n ≤ 16 := pol_n16 h.1 hc
  have H : Hid (RulesIn (w.alloc (.cells #[.int .i64 0, .slice none 0 0] 29)) a n zs) := h.below ((Below.refl _ _).alloc (Nat.le_refl _) _)
  have HC : Hid (polCode zs = 0) := hc
  clear h hc
  unfold GivesG
  go_enter Try.func16, Try.ntmps16
  go_wp2_with fail
  refine (l2Fault_c a n cap zs _ (by omega) H.out).mono ?_
  rintro e w1 ⟨rfl, hb1⟩
  rw [HC.out]
  have HX : Hid (RulesIn w1 a n zs) := H.out.below hb1
  have B1 : Hid (Below (w.alloc (.cells #[.int .i64 0, .slice none 0 0] 29)).heap.size (w.alloc (.cells #[.int .i64 0, .slice none 0 0] 29)) w1) := hb1
  clear hb1
  go_wp2_with fail
  refine (l3All_c a n cap zs w1 HX.out (by omega) (pol_ok HC.out).2).mono ?_
  rintro e w2 ⟨g, m, cap', ys, rfl, h1, h2, h3, h4, hb2⟩
  have hz1 := B1.out.size
  have hz2 := hb2.size
  simp only [World.size_alloc] at hz1
  have B2 : Below (w.alloc (.cells #[.int .i64 0, .slice none 0 0] 29)).heap.size (w.alloc (.cells #[.int .i64 0, .slice none 0 0] 29)) w2 := B1.out.trans (hb2.mono (by simp; omega))
  have hBx : Below w.heap.size w w2 := below_new B2
  have hw : w.heap.size < w2.heap.size := by omega
  have c0 : w2.cell? ⟨w.heap.size, 0, none⟩ = some (.int .i64 0) := (B2.cell (p := ⟨w.heap.size, 0, none⟩) (by simp)).trans (by simp)
  have c1 : w2.cell? ⟨w.heap.size, 1, none⟩ = some (.slice none 0 0) := (B2.cell (p := ⟨w.heap.size, 1, none⟩) (by simp)).trans (by simp)
  have f0 : w2.frozen? ⟨w.heap.size, 0, none⟩ = false := (B2.frozen (p := ⟨w.heap.size, 0, none⟩) (by simp)).trans (by simp [go_sem])
  have f1 : w2.frozen? ⟨w.heap.size, 1, none⟩ = false := (B2.frozen (p := ⟨w.heap.size, 1, none⟩) (by simp)).trans (by simp [go_sem])
  obtain rfl := allG_unique h2 hg
  have HF : Hid (m = ys.length ∧ Own3 w2 w1.heap.size (.slice (some ⟨g, 0, none⟩) m cap') ys) := ⟨h1.symm, h4⟩
  clear B2 hb2 h1 h2 h3 h4 B1
  go_wp2
  obtain ⟨h1, h3⟩ := HF.out
  subst h1
  refine bodyPost_ret (v := .agg #[.int .i64 0, .slice (some ⟨g, 0, none⟩) ys.length cap']) (by simp [results, Try.results16, go_sem, c0, c1, hw]) rfl ⟨some ⟨g, 0, none⟩, cap', rfl, ?_, ?_⟩
  · exact h3.box (by omega)
  · exact hBx |>.setCell (Nat.le_refl _) _ |>.setCell (Nat.le_refl _) _

set_option maxHeartbeats 1000000 in
theorem implGrantsOf_bad (a : Option Addr) (n cap : Nat) (zs : List RuleI) (c : Int) (w : World) (hn : n ≤ 1048576) (hcap : n ≤ cap) (hcm : cap ≤ maxLen) (h : RulesIn w a n zs) (hc : polCode zs = c) (h0 : c ≠ 0) : GivesG 14 a n cap c [] w := by
  have H : Hid (RulesIn (w.alloc (.cells #[.int .i64 0, .slice none 0 0] 29)) a n zs) := h.below ((Below.refl _ _).alloc (Nat.le_refl _) _)
  have HC : Hid (polCode zs = c) := hc
  clear h hc
  have hcn : (c != 0) = true := by simpa using h0
  unfold GivesG
  go_enter Try.func14, Try.ntmps14
  go_wp2_with fail
  refine (implPolicyFault_c a n cap zs _ hn hcap hcm H.out).mono ?_
  rintro e w1 ⟨rfl, hb1⟩
  rw [HC.out]
  have hBx : Below w.heap.size w w1 := below_new hb1
  have hw : w.heap.size < w1.heap.size := by have := hb1.size; simp only [World.size_alloc] at this; omega
  have c0 : w1.cell? ⟨w.heap.size, 0, none⟩ = some (.int .i64 0) := (hb1.cell (p := ⟨w.heap.size, 0, none⟩) (by simp)).trans (by simp)
  have c1 : w1.cell? ⟨w.heap.size, 1, none⟩ = some (.slice none 0 0) := (hb1.cell (p := ⟨w.heap.size, 1, none⟩) (by simp)).trans (by simp)
  have f0 : w1.frozen? ⟨w.heap.size, 0, none⟩ = false := (hb1.frozen (p := ⟨w.heap.size, 0, none⟩) (by simp)).trans (by simp [go_sem])
  have f1 : w1.frozen? ⟨w.heap.size, 1, none⟩ = false := (hb1.frozen (p := ⟨w.heap.size, 1, none⟩) (by simp)).trans (by simp [go_sem])
  clear hb1
  go_wp2
  refine bodyPost_ret (v := .agg #[.int .i64 c, .slice none 0 0]) (by simp [results, Try.results14, go_sem, c0, c1, hw]) rfl ⟨none, 0, rfl, World.ownsRow_nil _ _ _ _, ?_⟩
  exact hBx |>.setCell (Nat.le_refl _) _ |>.setCell (Nat.le_refl _) _

set_option maxHeartbeats 1000000 in
theorem implGrantsOf_ok (a : Option Addr) (n cap : Nat) (zs : List RuleI) (gs : List GrI) (w : World) (hcap : n ≤ cap) (hcm : cap ≤ maxLen) (h : RulesIn w a n zs) (hc : polCode zs = 0) (hg : AllG zs gs) : GivesG 14 a n cap 0 gs w := by
  have hn : n ≤ 16 := pol_n16 h.1 hc
  have H : Hid (RulesIn (w.alloc (.cells #[.int .i64 0, .slice none 0 0] 29)) a n zs) := h.below ((Below.refl _ _).alloc (Nat.le_refl _) _)
  have HC : Hid (polCode zs = 0) := hc
  clear h hc
  unfold GivesG
  go_enter Try.func14, Try.ntmps14
  go_wp2_with fail
  refine (implPolicyFault_c a n cap zs _ (by omega) hcap hcm H.out).mono ?_
  rintro e w1 ⟨rfl, hb1⟩
  rw [HC.out]
  have HX : Hid (RulesIn w1 a n zs) := H.out.below hb1
  have B1 : Hid (Below (w.alloc (.cells #[.int .i64 0, .slice none 0 0] 29)).heap.size (w.alloc (.cells #[.int .i64 0, .slice none 0 0] 29)) w1) := hb1
  clear hb1
  go_wp2_with fail
  refine (settle_c a n cap zs w1 HX.out hn HC.out).mono ?_
  rintro e w2 ⟨b, f, rfl, hG, hW, hb, hb2⟩
  have HW : Hid (Work zs f []) := hW
  clear hW
  go_wp2_with fail
  refine (list_c b f w2 hG).mono ?_
  rintro e w3 ⟨v, ys, rfl, hsg, hof, hown, hb3⟩
  obtain rfl := allG_unique (work_end (fun z hz => ((pol_ok HC.out).2 z hz).1) HW.out hsg hof) hg
  obtain ⟨a', cap', rfl⟩ := hown.slice
  have hz1 := B1.out.size
  have hz2 := hb2.size
  have hz3 := hb3.size
  simp only [World.size_alloc] at hz1
  have B2 : Below (w.alloc (.cells #[.int .i64 0, .slice none 0 0] 29)).heap.size (w.alloc (.cells #[.int .i64 0, .slice none 0 0] 29)) w3 := (B1.out.trans (hb2.mono (by simp; omega))).trans (hb3.mono (by simp; omega))
  have hBx : Below w.heap.size w w3 := below_new B2
  have hw : w.heap.size < w3.heap.size := by omega
  have c0 : w3.cell? ⟨w.heap.size, 0, none⟩ = some (.int .i64 0) := (B2.cell (p := ⟨w.heap.size, 0, none⟩) (by simp)).trans (by simp)
  have c1 : w3.cell? ⟨w.heap.size, 1, none⟩ = some (.slice none 0 0) := (B2.cell (p := ⟨w.heap.size, 1, none⟩) (by simp)).trans (by simp)
  have f0 : w3.frozen? ⟨w.heap.size, 0, none⟩ = false := (B2.frozen (p := ⟨w.heap.size, 0, none⟩) (by simp)).trans (by simp [go_sem])
  have f1 : w3.frozen? ⟨w.heap.size, 1, none⟩ = false := (B2.frozen (p := ⟨w.heap.size, 1, none⟩) (by simp)).trans (by simp [go_sem])
  have HF : Hid (Own3 w3 w2.heap.size (.slice a' ys.length cap') ys) := hown
  clear B2 hb2 hb3 hown B1 hG
  go_wp2
  refine bodyPost_ret (v := .agg #[.int .i64 0, .slice a' ys.length cap']) (by simp [results, Try.results14, go_sem, c0, c1, hw]) rfl ⟨a', cap', rfl, ?_, ?_⟩
  · exact HF.out.box (by omega)
  · exact hBx |>.setCell (Nat.le_refl _) _ |>.setCell (Nat.le_refl _) _

end Go.Proofs.Ytnmidppiakdanaa
