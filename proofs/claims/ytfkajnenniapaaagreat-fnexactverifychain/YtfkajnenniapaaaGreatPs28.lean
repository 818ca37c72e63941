/- Contracts. -/
import Derived.Test.YtfkajnenniapaaaGreatPs19
import Derived.Test.YtfkajnenniapaaaGreatPs09
import Derived.Deep.AppendLies
namespace Go.Proofs.YtfkajnenniapaaaGreat
set_option maxRecDepth 100000
set_option maxHeartbeats 8000000
open Go.RowKit
set_option linter.unusedVariables false
set_option linter.unusedSimpArgs false

theorem ShRoom.set {w : World} {g n : Nat} (h : ShRoom w g n) (o : Nat) (v : Value) : ShRoom (w.setCell ⟨g, o, none⟩ v) g n := by
 refine ⟨fun j hj => ?_, fun j => by simp only [World.frozen?_setCell]; exact h.2 j⟩
 obtain ⟨u, e⟩ := h.1 j hj
 by_cases q : j = o
 ·subst q
  exact ⟨v, by simp [go_sem, e]⟩
 ·exact ⟨u, by rw [World.cell?_setCell_other (h := fun e => q (by have := congrArg Addr.off e; simp at this; omega))]; exact e⟩

end Go.Proofs.YtfkajnenniapaaaGreat
