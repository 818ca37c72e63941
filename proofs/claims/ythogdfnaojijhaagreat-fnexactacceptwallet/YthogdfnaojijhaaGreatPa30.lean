/- Contracts. -/
import Derived.Test.YthogdfnaojijhaaGreatPa20
import Derived.Test.YthogdfnaojijhaaGreatPa28
import Derived.Deep.RegionLaw
namespace Go.Proofs.YthogdfnaojijhaaGreat
set_option maxRecDepth 100000
set_option maxHeartbeats 8000000
open Go.RowKit
set_option linter.unusedVariables false
set_option linter.unusedSimpArgs false

def fOf (cs:List qA3):Int:=(cs[0]?.getD default).f
theorem ak_ok {cs:List qA3} {zs:List ShI} (h:qG0 cs zs=0):qB5 cs=0∧qB9 (fOf cs) zs=0:=by
 unfold qG0 at h
 by_cases q:qB5 cs=0
 ·rw [if_pos q] at h;exact ⟨q,h⟩
 ·rw [if_neg q] at h;exact absurd h q
theorem e_of {cs:List qA3} (h:qB5 cs=0) {p:Nat} (hp:p < cs.length):1≤eAt cs p∧eAt cs p≤9:=by
 obtain ⟨_,_,h3⟩:=qW5 h
 have hx:=List.getElem?_eq_getElem (l:=cs) (i:=p) hp
 have hc:=(h3 p _ hx).1
 unfold qO7 at hc
 have:=(qD2 _ _ _).1 (QS4 hc).1
 unfold eAt
 rw [hx]
 exact this

end Go.Proofs.YthogdfnaojijhaaGreat
