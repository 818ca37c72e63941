/-
  CONTRACTS: what both programs' MembersOf answers; results of one number compared.
  Conditions: each contract bears its own.
-/
import Derived.Test.YtnmidppiakdanaaMo0
import Derived.Test.YtnmidppiakdanaaBx0
namespace Go.Proofs.Ytnmidppiakdanaa
open Go.RowKit
set_option linter.unusedVariables false
set_option linter.unusedSimpArgs false

theorem members_both (zs : List RuleI) (r : RoI) (n : Nat) (hn : n ≤ 1048576) (hz : zs.length = n) : ∃ c v : Int, (c = 0 → setB v) ∧
    (∀ (g : Nat) (w : World), RulesAt w g 0 zs → GivesI 86 (some ⟨g, 0, none⟩) n n r c v w) ∧
    (∀ (g : Nat) (w : World), RulesAt w g 0 zs → GivesI 20 (some ⟨g, 0, none⟩) n n r c v w) := by
  have hm : n ≤ maxLen := by unfold maxLen; omega
  by_cases hc : polCode zs = 0
  · cases hr : roleB r.1 r.2
    · have e : memCode zs r = 3 := by simp [memCode, orC, hc, roleCode, hr]
      exact ⟨3, 0, fun e => absurd e (by decide), fun g w h => specMembersOf_role _ _ _ _ _ _ hn (RulesIn.of hz h) hc hr, fun g w h => implMembersOf_bad _ _ _ _ _ _ _ hn (Nat.le_refl _) hm (RulesIn.of hz h) e (by decide)⟩
    · obtain ⟨gs, hg⟩ := all_some zs hc
      exact ⟨0, ofG gs r, fun _ => ofG_set hg.sg r, fun g w h => specMembersOf_ok _ _ _ _ _ _ _ (RulesIn.of hz h) hc hr hg, fun g w h => implMembersOf_ok _ _ _ _ _ _ _ (Nat.le_refl _) hm (RulesIn.of hz h) hc hr hg⟩
  · have e : memCode zs r = polCode zs := by simp [memCode, orC, hc]
    exact ⟨polCode zs, 0, fun e => absurd e hc, fun g w h => specMembersOf_pol _ _ _ _ _ _ _ hn (RulesIn.of hz h) rfl hc, fun g w h => implMembersOf_bad _ _ _ _ _ _ _ hn (Nat.le_refl _) hm (RulesIn.of hz h) e hc⟩

set_option maxHeartbeats 400000 in
theorem eqIR_c (c v : Int) (w : World) : Calls Try.prog 55 #[.agg #[.int .i64 c, .int .i64 v], .agg #[.int .i64 c, .int .i64 v]] w fun e w' => e = .returned (.bool true) ∧ Below w.heap.size w w' := by
  go_enter Try.func55, Try.ntmps55
  go_wp2
  go_ret
  exact ⟨rfl, by go_grown⟩

end Go.Proofs.Ytnmidppiakdanaa
