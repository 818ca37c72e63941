/-
  No cell of these rows narrows 'for every input' (looked for: loops, veiled, ifaces, maps, wideKeys, modest, calm, conditions, laid).
  DERIVED. THE GIVEN ROWS OF THIS SEAT. 3 by the template 'for every input the law returns true; each argument reads behind the call as it read before'; 0 by the template 'total and deterministic' (their statements: YtpeddanicenohaaTotals.lean).
  GIVEN WITH THE SEED: the statements are not yours to turn. If you find one false, say at which input.
  Laid BY PROGRAM, IN A SANDBOX (cutbox-rows.mjs): the forced cells as the released guide's own fill.sh prints them over the translation b7017e19bfc1d6e4… (all of the seat's roots in one cut). By AI agents, Wed Nov 11 2026. No macro, syntax, notation, axiom, sorry.
-/
import Derived.Test.YtpeddanicenohaaChecked
import GoSem.Claim
import GoSem.ClaimJoined
import GoSem.ClaimMapViews
import Derived.JoinedTies
import Derived.KernelRfl
namespace Go.Proofs.Ytpeddanicenohaa
/- THE CELL 'sum', in the pinned program and in every row, IS THE sha256 OF THE DUMP (.gsa) THAT YtpeddanicenohaaProg.lean LOADS. Nothing in Lean hashes anything: it is a label: what it is worth is what the hold of that sum in a sandbox is worth. -/
noncomputable def Try.pinned : Pinned := { name := "ytpeddanicenohaa", sum := "b7017e19bfc1d6e4a2e828a0f43ddcc29a7ddf48bdaf1ff6a4a31639438f0296", checked := Try.checked }
namespace Rows
def none {H : Type} : Left H := { results := [], args := [] }

/-- 'laws.FnExactStatementFault': WHATEVER THE INPUT: true; the input reads as it did. -/
def fnExactStatementFaultSpec : ChangeSpec := { name := "fnExactStatementFault", fn := fun _ => fun
  | [d] => { results := [.lit (.bool true)], args := [d] }
  | _ => none }
def fnExactStatementFaultRow : OpenClaim := { program := "ytpeddanicenohaa", sum := "b7017e19bfc1d6e4a2e828a0f43ddcc29a7ddf48bdaf1ff6a4a31639438f0296", func := "loop.example/g00338/laws.FnExactStatementFault", spec := "fnExactStatementFault", apart := false }
def FnExactStatementFaultSaid : Prop := fnExactStatementFaultRow.holds Try.pinned (OpenSpec.ofChange fnExactStatementFaultSpec)

/-- ITS FALSE NEIGHBOUR: 'it returns false'. Refute it at one input. -/
def fnExactStatementFaultWrong : ChangeSpec := { name := "fnExactStatementFault", fn := fun _ => fun
  | [d] => { results := [.lit (.bool false)], args := [d] }
  | _ => none }
def FnExactStatementFaultWrongFalsely : Prop := fnExactStatementFaultRow.holds Try.pinned (OpenSpec.ofChange fnExactStatementFaultWrong)

/-- 'laws.FnExactPackStatement': WHATEVER THE INPUT: true; the input reads as it did. -/
def fnExactPackStatementSpec : ChangeSpec := { name := "fnExactPackStatement", fn := fun _ => fun
  | [d] => { results := [.lit (.bool true)], args := [d] }
  | _ => none }
def fnExactPackStatementRow : OpenClaim := { program := "ytpeddanicenohaa", sum := "b7017e19bfc1d6e4a2e828a0f43ddcc29a7ddf48bdaf1ff6a4a31639438f0296", func := "loop.example/g00338/laws.FnExactPackStatement", spec := "fnExactPackStatement", apart := false }
def FnExactPackStatementSaid : Prop := fnExactPackStatementRow.holds Try.pinned (OpenSpec.ofChange fnExactPackStatementSpec)

/-- ITS FALSE NEIGHBOUR: 'it returns false'. Refute it at one input. -/
def fnExactPackStatementWrong : ChangeSpec := { name := "fnExactPackStatement", fn := fun _ => fun
  | [d] => { results := [.lit (.bool false)], args := [d] }
  | _ => none }
def FnExactPackStatementWrongFalsely : Prop := fnExactPackStatementRow.holds Try.pinned (OpenSpec.ofChange fnExactPackStatementWrong)

/-- 'laws.FnExactClashStatements': WHATEVER THE INPUT: true; the input reads as it did. -/
def fnExactClashStatementsSpec : ChangeSpec := { name := "fnExactClashStatements", fn := fun _ => fun
  | [d1, d2, d3] => { results := [.lit (.bool true)], args := [d1, d2, d3] }
  | _ => none }
def fnExactClashStatementsRow : OpenClaim := { program := "ytpeddanicenohaa", sum := "b7017e19bfc1d6e4a2e828a0f43ddcc29a7ddf48bdaf1ff6a4a31639438f0296", func := "loop.example/g00338/laws.FnExactClashStatements", spec := "fnExactClashStatements", apart := false }
def FnExactClashStatementsSaid : Prop := fnExactClashStatementsRow.holds Try.pinned (OpenSpec.ofChange fnExactClashStatementsSpec)

/-- ITS FALSE NEIGHBOUR: 'it returns false'. Refute it at one input. -/
def fnExactClashStatementsWrong : ChangeSpec := { name := "fnExactClashStatements", fn := fun _ => fun
  | [d1, d2, d3] => { results := [.lit (.bool false)], args := [d1, d2, d3] }
  | _ => none }
def FnExactClashStatementsWrongFalsely : Prop := fnExactClashStatementsRow.holds Try.pinned (OpenSpec.ofChange fnExactClashStatementsWrong)

/- THE SECOND FORM. 'bulk': how many values and letters a reading holds, each counted each time it is reached (what is shared counts as often as it is met; a slice's spare places count too). A statement '..UptoSaid' is the law's where the arguments, and the package variables that the reading takes, are together of bulk at most 1048576: NARROWER than '..Said'. Prove '..Said' where nothing that the law and all that it calls make is longer than what came in: it says more and counts as full. Else prove '..UptoSaid'. A law counts once. -/
mutual
def uptoBulk {H : Type} : DataW H → Nat
  | .lit (.string bytes) => bytes.length + 1
  | .lit _ => 1
  | .nil => 1
  | .ptr d => uptoBulk d + 1
  | .slice elems spare => uptoBulkAll elems + uptoBulkAll spare + 1
  | .agg parts => uptoBulkAll parts + 1
  | .iface _ d => uptoBulk d + 1
  | .map entries => uptoBulkEntries entries + 1
  | .held _ => 1
def uptoBulkAll {H : Type} : List (DataW H) → Nat
  | [] => 0
  | d :: r => uptoBulk d + uptoBulkAll r
def uptoBulkEntries {H : Type} : List (Lit × DataW H) → Nat
  | [] => 0
  | x :: r => uptoBulkEntry x + uptoBulkEntries r
def uptoBulkEntry {H : Type} : Lit × DataW H → Nat
  | (.string bytes, d) => bytes.length + uptoBulk d + 1
  | (_, d) => uptoBulk d + 1
 end
def uptoSmall : (H : Type) → List (DataW H) → Bool := fun _ ds => decide (uptoBulkAll ds ≤ 1048576)
def OpenSpec.upto (s : _root_.Go.ChangeSpec) : _root_.Go.OpenSpec := { _root_.Go.OpenSpec.ofChange s with cond := some uptoSmall }

/-- 'laws.FnExactStatementFault', WHERE WHAT IT READS IS OF BULK AT MOST 1048576: true; the input reads as it did. -/
def fnExactStatementFaultUptoRow : OpenClaim := { program := "ytpeddanicenohaa", sum := "b7017e19bfc1d6e4a2e828a0f43ddcc29a7ddf48bdaf1ff6a4a31639438f0296", func := "loop.example/g00338/laws.FnExactStatementFault", spec := "fnExactStatementFault", apart := false, narrowed := true }
def FnExactStatementFaultUptoSaid : Prop := fnExactStatementFaultUptoRow.holds Try.pinned (OpenSpec.upto fnExactStatementFaultSpec)

/-- 'laws.FnExactPackStatement', WHERE WHAT IT READS IS OF BULK AT MOST 1048576: true; the input reads as it did. -/
def fnExactPackStatementUptoRow : OpenClaim := { program := "ytpeddanicenohaa", sum := "b7017e19bfc1d6e4a2e828a0f43ddcc29a7ddf48bdaf1ff6a4a31639438f0296", func := "loop.example/g00338/laws.FnExactPackStatement", spec := "fnExactPackStatement", apart := false, narrowed := true }
def FnExactPackStatementUptoSaid : Prop := fnExactPackStatementUptoRow.holds Try.pinned (OpenSpec.upto fnExactPackStatementSpec)

/-- 'laws.FnExactClashStatements', WHERE WHAT IT READS IS OF BULK AT MOST 1048576: true; the input reads as it did. -/
def fnExactClashStatementsUptoRow : OpenClaim := { program := "ytpeddanicenohaa", sum := "b7017e19bfc1d6e4a2e828a0f43ddcc29a7ddf48bdaf1ff6a4a31639438f0296", func := "loop.example/g00338/laws.FnExactClashStatements", spec := "fnExactClashStatements", apart := false, narrowed := true }
def FnExactClashStatementsUptoSaid : Prop := fnExactClashStatementsUptoRow.holds Try.pinned (OpenSpec.upto fnExactClashStatementsSpec)

end Rows
end Go.Proofs.Ytpeddanicenohaa
