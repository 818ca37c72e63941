/-
  No cell of these rows narrows 'for every input' (looked for: loops, veiled, ifaces, maps, wideKeys, modest, calm, conditions, laid).
  DERIVED. THE GIVEN ROWS OF THIS SEAT. 3 by the template 'for every input the law returns true; each argument reads behind the call as it read before'; 0 by the template 'total and deterministic' (their statements: YtfkajnenniapaaaGreatTotals.lean).
  GIVEN WITH THE SEED: the statements are not yours to turn. If you find one false, say at which input.
  Laid BY PROGRAM, IN A SANDBOX (cutbox-rows.mjs): the forced cells as the released guide's own fill.sh prints them over the translation 68963c7c8cf1bc22… (all of the seat's roots in one cut). By AI agents, Wed Nov 11 2026. No macro, syntax, notation, axiom, sorry.
-/
import Derived.Test.YtfkajnenniapaaaGreatChecked
import GoSem.Claim
import GoSem.ClaimJoined
import GoSem.ClaimMapViews
import Derived.JoinedTies
import Derived.KernelRfl
namespace Go.Proofs.YtfkajnenniapaaaGreat
/- THE CELL 'sum', in the pinned program and in every row, IS THE sha256 OF THE DUMP (.gsa) THAT YtfkajnenniapaaaGreatProg.lean LOADS. Nothing in Lean hashes anything: it is a label: what it is worth is what the hold of that sum in a sandbox is worth. -/
noncomputable def Tryz.pinned : Pinned := { name := "ytfkajnenniapaaagreat", sum := "68963c7c8cf1bc227dd33f716d33feba9cca1babe7e5c755209131c6492ea696", checked := Tryz.checked }
namespace Rows
def none {H : Type} : Left H := { results := [], args := [] }

/-- 'laws.FnExactReachOf': WHATEVER THE INPUT: true; the input reads as it did. -/
def fnExactReachOfSpec : ChangeSpec := { name := "fnExactReachOf", fn := fun _ => fun
  | [d1, d2] => { results := [.lit (.bool true)], args := [d1, d2] }
  | _ => none }
def fnExactReachOfRow : OpenClaim := { program := "ytfkajnenniapaaagreat", sum := "68963c7c8cf1bc227dd33f716d33feba9cca1babe7e5c755209131c6492ea696", func := "loop.example/g00338/laws.FnExactReachOf", spec := "fnExactReachOf", unfollowed := true, recurses := true, apart := false }
def FnExactReachOfSaid : Prop := fnExactReachOfRow.holds Tryz.pinned (OpenSpec.ofChange fnExactReachOfSpec)

/-- ITS FALSE NEIGHBOUR: 'it returns false'. Refute it at one input. -/
def fnExactReachOfWrong : ChangeSpec := { name := "fnExactReachOf", fn := fun _ => fun
  | [d1, d2] => { results := [.lit (.bool false)], args := [d1, d2] }
  | _ => none }
def FnExactReachOfWrongFalsely : Prop := fnExactReachOfRow.holds Tryz.pinned (OpenSpec.ofChange fnExactReachOfWrong)

/-- 'laws.FnExactVerifyChain': WHATEVER THE INPUT: true; the input reads as it did. -/
def fnExactVerifyChainSpec : ChangeSpec := { name := "fnExactVerifyChain", fn := fun _ => fun
  | [d1, d2, d3] => { results := [.lit (.bool true)], args := [d1, d2, d3] }
  | _ => none }
def fnExactVerifyChainRow : OpenClaim := { program := "ytfkajnenniapaaagreat", sum := "68963c7c8cf1bc227dd33f716d33feba9cca1babe7e5c755209131c6492ea696", func := "loop.example/g00338/laws.FnExactVerifyChain", spec := "fnExactVerifyChain", unfollowed := true, recurses := true, apart := false }
def FnExactVerifyChainSaid : Prop := fnExactVerifyChainRow.holds Tryz.pinned (OpenSpec.ofChange fnExactVerifyChainSpec)

/-- ITS FALSE NEIGHBOUR: 'it returns false'. Refute it at one input. -/
def fnExactVerifyChainWrong : ChangeSpec := { name := "fnExactVerifyChain", fn := fun _ => fun
  | [d1, d2, d3] => { results := [.lit (.bool false)], args := [d1, d2, d3] }
  | _ => none }
def FnExactVerifyChainWrongFalsely : Prop := fnExactVerifyChainRow.holds Tryz.pinned (OpenSpec.ofChange fnExactVerifyChainWrong)

/-- 'laws.FnExactExtendChain': WHATEVER THE INPUT: true; the input reads as it did. -/
def fnExactExtendChainSpec : ChangeSpec := { name := "fnExactExtendChain", fn := fun _ => fun
  | [d1, d2, d3, d4] => { results := [.lit (.bool true)], args := [d1, d2, d3, d4] }
  | _ => none }
def fnExactExtendChainRow : OpenClaim := { program := "ytfkajnenniapaaagreat", sum := "68963c7c8cf1bc227dd33f716d33feba9cca1babe7e5c755209131c6492ea696", func := "loop.example/g00338/laws.FnExactExtendChain", spec := "fnExactExtendChain", unfollowed := true, recurses := true, apart := false }
def FnExactExtendChainSaid : Prop := fnExactExtendChainRow.holds Tryz.pinned (OpenSpec.ofChange fnExactExtendChainSpec)

/-- ITS FALSE NEIGHBOUR: 'it returns false'. Refute it at one input. -/
def fnExactExtendChainWrong : ChangeSpec := { name := "fnExactExtendChain", fn := fun _ => fun
  | [d1, d2, d3, d4] => { results := [.lit (.bool false)], args := [d1, d2, d3, d4] }
  | _ => none }
def FnExactExtendChainWrongFalsely : Prop := fnExactExtendChainRow.holds Tryz.pinned (OpenSpec.ofChange fnExactExtendChainWrong)

/- THE SECOND FORM. 'bulk': how many values and letters a reading holds, each counted each time it is reached (what is shared counts as often as it is met; a slice's spare places count too). A statement '..UptoSaid' is the law's where the arguments, and the package variables that the reading takes, are together of bulk at most 1048576: NARROWER than '..Said'. Prove '..Said' where nothing that the law and all that it calls make is longer than what came in: it says more and counts as full. Else prove '..UptoSaid'. A law counts once. -/
mutual
def uptoBulk {H : Type} : DataW H → Nat
  | .lit (.string bytes) => bytes.length + 1
  | .lit _ => 1
  | .nil => 1
  | .ptr d => uptoBulk d + 1
  | .slice elems spare => uptoBulkAll elems + uptoBulkAll spare + 1
  | .agg parts => uptoBulkAll parts + 1
  | .iface _ d => uptoBulk d + 1
  | .map entries => uptoBulkEntries entries + 1
  | .held _ => 1
def uptoBulkAll {H : Type} : List (DataW H) → Nat
  | [] => 0
  | d :: r => uptoBulk d + uptoBulkAll r
def uptoBulkEntries {H : Type} : List (Lit × DataW H) → Nat
  | [] => 0
  | x :: r => uptoBulkEntry x + uptoBulkEntries r
def uptoBulkEntry {H : Type} : Lit × DataW H → Nat
  | (.string bytes, d) => bytes.length + uptoBulk d + 1
  | (_, d) => uptoBulk d + 1
 end
def uptoSmall : (H : Type) → List (DataW H) → Bool := fun _ ds => decide (uptoBulkAll ds ≤ 1048576)
def OpenSpec.upto (s : _root_.Go.ChangeSpec) : _root_.Go.OpenSpec := { _root_.Go.OpenSpec.ofChange s with cond := some uptoSmall }

/-- 'laws.FnExactReachOf', WHERE WHAT IT READS IS OF BULK AT MOST 1048576: true; the input reads as it did. -/
def fnExactReachOfUptoRow : OpenClaim := { program := "ytfkajnenniapaaagreat", sum := "68963c7c8cf1bc227dd33f716d33feba9cca1babe7e5c755209131c6492ea696", func := "loop.example/g00338/laws.FnExactReachOf", spec := "fnExactReachOf", unfollowed := true, recurses := true, apart := false, narrowed := true }
def FnExactReachOfUptoSaid : Prop := fnExactReachOfUptoRow.holds Tryz.pinned (OpenSpec.upto fnExactReachOfSpec)

/-- 'laws.FnExactVerifyChain', WHERE WHAT IT READS IS OF BULK AT MOST 1048576: true; the input reads as it did. -/
def fnExactVerifyChainUptoRow : OpenClaim := { program := "ytfkajnenniapaaagreat", sum := "68963c7c8cf1bc227dd33f716d33feba9cca1babe7e5c755209131c6492ea696", func := "loop.example/g00338/laws.FnExactVerifyChain", spec := "fnExactVerifyChain", unfollowed := true, recurses := true, apart := false, narrowed := true }
def FnExactVerifyChainUptoSaid : Prop := fnExactVerifyChainUptoRow.holds Tryz.pinned (OpenSpec.upto fnExactVerifyChainSpec)

/-- 'laws.FnExactExtendChain', WHERE WHAT IT READS IS OF BULK AT MOST 1048576: true; the input reads as it did. -/
def fnExactExtendChainUptoRow : OpenClaim := { program := "ytfkajnenniapaaagreat", sum := "68963c7c8cf1bc227dd33f716d33feba9cca1babe7e5c755209131c6492ea696", func := "loop.example/g00338/laws.FnExactExtendChain", spec := "fnExactExtendChain", unfollowed := true, recurses := true, apart := false, narrowed := true }
def FnExactExtendChainUptoSaid : Prop := fnExactExtendChainUptoRow.holds Tryz.pinned (OpenSpec.upto fnExactExtendChainSpec)

end Rows
end Go.Proofs.YtfkajnenniapaaaGreat
