/- Contracts. -/
import Derived.Test.YtfkajnenniapaaaGreatPs24
import Derived.Test.YtfkajnenniapaaaGreatPs25
import Derived.Test.YtfkajnenniapaaaGreatPs30
import Derived.Deep.RegionLaw
namespace Go.Proofs.YtfkajnenniapaaaGreat
set_option maxRecDepth 100000
set_option maxHeartbeats 8000000
open Go.RowKit
set_option linter.unusedVariables false
set_option linter.unusedSimpArgs false

def fOf (cs : List ConfI) : Int := (cs[0]?.getD default).f
theorem ak_ok {cs : List ConfI} {zs : List ShI} (h : akCode cs zs = 0) : cfsCode cs = 0 ∧ shCode (fOf cs) zs = 0 := by
 unfold akCode at h
 by_cases q : cfsCode cs = 0
 ·rw [if_pos q] at h; exact ⟨q, h⟩
 ·rw [if_neg q] at h; exact absurd h q
theorem e_of {cs : List ConfI} (h : cfsCode cs = 0) {p : Nat} (hp : p < cs.length) : 1 ≤ eAt cs p ∧ eAt cs p ≤ 9 := by
 obtain ⟨_, _, h3⟩ := cfs_ok h
 have hx := List.getElem?_eq_getElem (l := cs) (i := p) hp
 have hc := (h3 p _ hx).1
 unfold codeC at hc
 have := (inR_iff _ _ _).1 (cf_zero hc).1
 unfold eAt
 rw [hx]
 exact this

end Go.Proofs.YtfkajnenniapaaaGreat
