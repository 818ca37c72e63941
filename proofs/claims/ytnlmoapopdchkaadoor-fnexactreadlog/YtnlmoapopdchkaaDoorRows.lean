/-
  NARROWER THAN 'FOR EVERY INPUT', by the rows' own cells (each row's printed sentence says how): FnExactReadLog: ifaces, laid · FnExactWholeIn: ifaces, laid.
  DERIVED. THE GIVEN ROWS OF THIS SEAT. 2 by the template 'for every input the law returns true; each argument reads behind the call as it read before'; 0 by the template 'total and deterministic' (their statements: YtnlmoapopdchkaaDoorTotals.lean).
  GIVEN WITH THE SEED: the statements are not yours to turn. If you find one false, say at which input.
  Laid BY PROGRAM, IN A SANDBOX (cutbox-rows.mjs): the forced cells as the released guide's own fill.sh prints them over the translation eca9cbc4f54cbebd… (all of the seat's roots in one cut). By AI agents, Wed Nov 11 2026. No macro, syntax, notation, axiom, sorry.
-/
import Derived.Test.YtnlmoapopdchkaaDoorChecked
import GoSem.Claim
import GoSem.ClaimJoined
import GoSem.ClaimMapViews
import Derived.JoinedTies
import Derived.KernelRfl
namespace Go.Proofs.YtnlmoapopdchkaaDoor
/- THE CELL 'sum', in the pinned program and in every row, IS THE sha256 OF THE DUMP (.gsa) THAT YtnlmoapopdchkaaDoorProg.lean LOADS. Nothing in Lean hashes anything: it is a label: what it is worth is what the hold of that sum in a sandbox is worth. -/
noncomputable def Tryd.pinned : Pinned := { name := "ytnlmoapopdchkaadoor", sum := "eca9cbc4f54cbebd68f5e783b811289a26508d693887cf3d3a6655eca14e4c4e", checked := Tryd.checked }
namespace Rows
def none {H : Type} : Left H := { results := [], args := [] }

/- WHAT THE LISTED PACKAGE-LEVEL VARIABLES READ AS WHEN THE CALL BEGINS. Each datum BY PROGRAM (the guide's laid-datum.mjs) off the statement by which the dump's own 'gosem.cut.vars' lays the variable. In a bare row this is a premise. The card (YtnlmoapopdchkaaDoorCards.lean) ties it to the program's text. -/
def laid_loop_example_g00338_impl_errUnreadable {H : Type} : DataW H := .iface "*errors.errorString" (.ptr (.agg [.lit (.string [116, 104, 105, 115, 32, 105, 115, 32, 110, 111, 32, 115, 116, 97, 116, 101, 109, 101, 110, 116])]))

/-- 'laws.FnExactReadLog': WHATEVER THE INPUT: true; the input reads as it did. -/
def fnExactReadLogSpec : ChangeSpec := { name := "fnExactReadLog", vars := ["loop.example/g00338/impl.errUnreadable"], fn := fun _ => fun
  | [d, g1] => { results := [.lit (.bool true)], args := [d], vars := [g1] }
  | _ => none }
def fnExactReadLogRow : OpenClaim := { program := "ytnlmoapopdchkaadoor", sum := "eca9cbc4f54cbebd68f5e783b811289a26508d693887cf3d3a6655eca14e4c4e", func := "loop.example/g00338/laws.FnExactReadLog", spec := "fnExactReadLog", unfollowed := true, recurses := true, named := ["loop.example/g00338/impl.errUnreadable"], ifaces := true, apart := false, laid := [("loop.example/g00338/impl.errUnreadable", laid_loop_example_g00338_impl_errUnreadable)] }
def FnExactReadLogSaid : Prop := fnExactReadLogRow.holds Tryd.pinned (OpenSpec.ofChange fnExactReadLogSpec)

/-- ITS FALSE NEIGHBOUR: 'it returns false'. Refute it at one input. -/
def fnExactReadLogWrong : ChangeSpec := { name := "fnExactReadLog", vars := ["loop.example/g00338/impl.errUnreadable"], fn := fun _ => fun
  | [d, g1] => { results := [.lit (.bool false)], args := [d], vars := [g1] }
  | _ => none }
def FnExactReadLogWrongFalsely : Prop := fnExactReadLogRow.holds Tryd.pinned (OpenSpec.ofChange fnExactReadLogWrong)

/-- 'laws.FnExactWholeIn': WHATEVER THE INPUT: true; the input reads as it did. -/
def fnExactWholeInSpec : ChangeSpec := { name := "fnExactWholeIn", vars := ["loop.example/g00338/impl.errUnreadable"], fn := fun _ => fun
  | [d, g1] => { results := [.lit (.bool true)], args := [d], vars := [g1] }
  | _ => none }
def fnExactWholeInRow : OpenClaim := { program := "ytnlmoapopdchkaadoor", sum := "eca9cbc4f54cbebd68f5e783b811289a26508d693887cf3d3a6655eca14e4c4e", func := "loop.example/g00338/laws.FnExactWholeIn", spec := "fnExactWholeIn", unfollowed := true, recurses := true, named := ["loop.example/g00338/impl.errUnreadable"], ifaces := true, apart := false, laid := [("loop.example/g00338/impl.errUnreadable", laid_loop_example_g00338_impl_errUnreadable)] }
def FnExactWholeInSaid : Prop := fnExactWholeInRow.holds Tryd.pinned (OpenSpec.ofChange fnExactWholeInSpec)

/-- ITS FALSE NEIGHBOUR: 'it returns false'. Refute it at one input. -/
def fnExactWholeInWrong : ChangeSpec := { name := "fnExactWholeIn", vars := ["loop.example/g00338/impl.errUnreadable"], fn := fun _ => fun
  | [d, g1] => { results := [.lit (.bool false)], args := [d], vars := [g1] }
  | _ => none }
def FnExactWholeInWrongFalsely : Prop := fnExactWholeInRow.holds Tryd.pinned (OpenSpec.ofChange fnExactWholeInWrong)

/- THE SECOND FORM. 'bulk': how many values and letters a reading holds, each counted each time it is reached (what is shared counts as often as it is met; a slice's spare places count too). A statement '..UptoSaid' is the law's where the arguments, and the package variables that the reading takes, are together of bulk at most 1048576: NARROWER than '..Said'. Prove '..Said' where nothing that the law and all that it calls make is longer than what came in: it says more and counts as full. Else prove '..UptoSaid'. A law counts once. -/
mutual
def uptoBulk {H : Type} : DataW H → Nat
  | .lit (.string bytes) => bytes.length + 1
  | .lit _ => 1
  | .nil => 1
  | .ptr d => uptoBulk d + 1
  | .slice elems spare => uptoBulkAll elems + uptoBulkAll spare + 1
  | .agg parts => uptoBulkAll parts + 1
  | .iface _ d => uptoBulk d + 1
  | .map entries => uptoBulkEntries entries + 1
  | .held _ => 1
def uptoBulkAll {H : Type} : List (DataW H) → Nat
  | [] => 0
  | d :: r => uptoBulk d + uptoBulkAll r
def uptoBulkEntries {H : Type} : List (Lit × DataW H) → Nat
  | [] => 0
  | x :: r => uptoBulkEntry x + uptoBulkEntries r
def uptoBulkEntry {H : Type} : Lit × DataW H → Nat
  | (.string bytes, d) => bytes.length + uptoBulk d + 1
  | (_, d) => uptoBulk d + 1
 end
def uptoSmall : (H : Type) → List (DataW H) → Bool := fun _ ds => decide (uptoBulkAll ds ≤ 1048576)
def OpenSpec.upto (s : _root_.Go.ChangeSpec) : _root_.Go.OpenSpec := { _root_.Go.OpenSpec.ofChange s with cond := some uptoSmall }

/-- 'laws.FnExactReadLog', WHERE WHAT IT READS IS OF BULK AT MOST 1048576: true; the input reads as it did. -/
def fnExactReadLogUptoRow : OpenClaim := { program := "ytnlmoapopdchkaadoor", sum := "eca9cbc4f54cbebd68f5e783b811289a26508d693887cf3d3a6655eca14e4c4e", func := "loop.example/g00338/laws.FnExactReadLog", spec := "fnExactReadLog", unfollowed := true, recurses := true, named := ["loop.example/g00338/impl.errUnreadable"], ifaces := true, apart := false, laid := [("loop.example/g00338/impl.errUnreadable", laid_loop_example_g00338_impl_errUnreadable)], narrowed := true }
def FnExactReadLogUptoSaid : Prop := fnExactReadLogUptoRow.holds Tryd.pinned (OpenSpec.upto fnExactReadLogSpec)

/-- 'laws.FnExactWholeIn', WHERE WHAT IT READS IS OF BULK AT MOST 1048576: true; the input reads as it did. -/
def fnExactWholeInUptoRow : OpenClaim := { program := "ytnlmoapopdchkaadoor", sum := "eca9cbc4f54cbebd68f5e783b811289a26508d693887cf3d3a6655eca14e4c4e", func := "loop.example/g00338/laws.FnExactWholeIn", spec := "fnExactWholeIn", unfollowed := true, recurses := true, named := ["loop.example/g00338/impl.errUnreadable"], ifaces := true, apart := false, laid := [("loop.example/g00338/impl.errUnreadable", laid_loop_example_g00338_impl_errUnreadable)], narrowed := true }
def FnExactWholeInUptoSaid : Prop := fnExactWholeInUptoRow.holds Tryd.pinned (OpenSpec.upto fnExactWholeInSpec)

end Rows
end Go.Proofs.YtnlmoapopdchkaaDoor
