/- Contracts. -/
import Derived.Test.YtfkajnenniapaaaGreatPt32
import Derived.Test.YtfkajnenniapaaaGreatPt39
namespace Go.Proofs.YtfkajnenniapaaaGreat
set_option maxRecDepth 100000
set_option maxHeartbeats 8000000
open Go.RowKit
set_option linter.unusedVariables false
set_option linter.unusedSimpArgs false

theorem SameCs.eAt {cs ds : List ConfI} (h : SameCs cs ds) (p : Nat) : eAt ds p = eAt cs p := by
 unfold Go.Proofs.YtfkajnenniapaaaGreat.eAt
 cases e : ds[p]? with
 | none =>
  have : ds.length ≤ p := by simpa using e
  have e2 : cs[p]? = none := List.getElem?_eq_none (by rw [← h.ln]; exact this)
  rw [e2]
 | some d =>
  obtain ⟨c, hc, hs⟩ := h.get e
  rw [hc]
  exact hs.e
theorem SameCs.ak {cs ds : List ConfI} (h : SameCs cs ds) (zs : List ShI) : akCode ds zs = akCode cs zs := by
 unfold akCode
 rw [h.cfs, h.f0]

end Go.Proofs.YtfkajnenniapaaaGreat
