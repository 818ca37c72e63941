/- Contracts. -/
import Derived.Test.YtfkajnenniapaaaGreatPs16
namespace Go.Proofs.YtfkajnenniapaaaGreat
set_option maxRecDepth 100000
set_option maxHeartbeats 8000000
open Go.RowKit
set_option linter.unusedVariables false
set_option linter.unusedSimpArgs false

def eAt (cs : List ConfI) (p : Nat) : Int := (cs[p]?.getD default).e
def lastP (l : List Nat) : Nat := l[l.length - 1]?.getD 0
theorem last_app (l : List Nat) (i : Nat) : lastP (l ++ [i]) = i := by
 unfold lastP
 simp

end Go.Proofs.YtfkajnenniapaaaGreat
