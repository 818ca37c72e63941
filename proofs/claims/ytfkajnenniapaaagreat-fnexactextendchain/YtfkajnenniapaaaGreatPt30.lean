/- Contracts. -/
import Derived.Test.YtfkajnenniapaaaGreatPt23
import Derived.Test.YtfkajnenniapaaaGreatPt24
import Derived.Test.YtfkajnenniapaaaGreatPt28
import Derived.Deep.RegionLaw
namespace Go.Proofs.YtfkajnenniapaaaGreat
set_option maxRecDepth 100000
set_option maxHeartbeats 8000000
open Go.RowKit
set_option linter.unusedVariables false
set_option linter.unusedSimpArgs false

def fOf (cs : List ConfI) : Int := (cs[0]?.getD default).f
theorem ak_ok {cs : List ConfI} {zs : List ShI} (h : akCode cs zs = 0) : cfsCode cs = 0 ∧ shCode (fOf cs) zs = 0 := by
 unfold akCode at h
 by_cases q : cfsCode cs = 0
 ·rw [if_pos q] at h; exact ⟨q, h⟩
 ·rw [if_neg q] at h; exact absurd h q
theorem e_of {cs : List ConfI} (h : cfsCode cs = 0) {p : Nat} (hp : p < cs.length) : 1 ≤ eAt cs p ∧ eAt cs p ≤ 9 := by
 obtain ⟨_, _, h3⟩ := cfs_ok h
 have hx := List.getElem?_eq_getElem (l := cs) (i := p) hp
 have hc := (h3 p _ hx).1
 unfold codeC at hc
 have := (inR_iff _ _ _).1 (cf_zero hc).1
 unfold eAt
 rw [hx]
 exact this
theorem owns_sl {w : World} {B n : Nat} {v : Value} {xs : List Value} (h : w.ownsRow B 2 1 v n xs) (hn : 0 < n) : ∃ g c, v = .slice (some ⟨g, 0, none⟩) n c := by
 have hl := h.1
 rcases h.2 with ⟨_, h2⟩ | ⟨g, cp, cur, h1, _⟩
 ·rw [h2] at hl; simp at hl; omega
 ·exact ⟨g, cp, h1⟩

end Go.Proofs.YtfkajnenniapaaaGreat
