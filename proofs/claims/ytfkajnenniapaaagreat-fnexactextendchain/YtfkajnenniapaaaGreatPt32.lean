/- Contracts. -/
import Derived.Test.YtfkajnenniapaaaGreatPt31
namespace Go.Proofs.YtfkajnenniapaaaGreat
set_option maxRecDepth 100000
set_option maxHeartbeats 8000000
open Go.RowKit
set_option linter.unusedVariables false
set_option linter.unusedSimpArgs false

theorem gr_agg (a : Option Addr) (n cap : Nat) (b : Option Addr) (m cap' : Nat) (cs : List ConfI) : ∃ (x0 x1 : Value) (x2 : Int), grV a n cap b m cap' cs = .agg #[x0, x1, .int .i64 x2] ∧ (x0 = .slice none 0 0 ∨ x0 = .slice a n cap) ∧ (x1 = .slice none 0 0 ∨ x1 = .slice b m cap') := by
 unfold grV
 by_cases q : cfsCode cs = 0
 ·rw [if_pos q]; exact ⟨_, _, _, rfl, .inr rfl, .inr rfl⟩
 ·rw [if_neg q]; exact ⟨_, _, _, rfl, .inl rfl, .inl rfl⟩

end Go.Proofs.YtfkajnenniapaaaGreat
