/- Contracts. -/
import Derived.Test.YtfkajnenniapaaaGreatPt16
namespace Go.Proofs.YtfkajnenniapaaaGreat
set_option maxRecDepth 100000
set_option maxHeartbeats 8000000
open Go.RowKit
set_option linter.unusedVariables false
set_option linter.unusedSimpArgs false

def eAt (cs : List ConfI) (p : Nat) : Int := (cs[p]?.getD default).e
def sB (cs : List ConfI) (P : Int → Nat → Bool) (e : Int) (i : Nat) : Bool := decide (eAt cs i = e + 1) && P e i
def nx (cs : List ConfI) (P : Int → Nat → Bool) (e : Int) : Nat → Option Nat
 | 0 => none
 | k + 1 => match nx cs P e k with
  | some i => some i
  | none => if sB cs P e k = true then some k else none
def lastP (l : List Nat) : Nat := l[l.length - 1]?.getD 0
theorem last_app (l : List Nat) (i : Nat) : lastP (l ++ [i]) = i := by
 unfold lastP
 simp

end Go.Proofs.YtfkajnenniapaaaGreat
