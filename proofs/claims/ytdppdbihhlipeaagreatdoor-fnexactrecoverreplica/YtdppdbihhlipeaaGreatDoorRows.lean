/-
  NARROWER THAN 'FOR EVERY INPUT', by the rows' own cells (each row's printed sentence says how): FnExactLogOf: ifaces, laid · FnExactRecoverReplica: ifaces, laid.
  DERIVED. THE GIVEN ROWS OF THIS SEAT. 2 by the template 'for every input the law returns true; each argument reads behind the call as it read before'; 0 by the template 'total and deterministic' (their statements: YtdppdbihhlipeaaGreatDoorTotals.lean).
  GIVEN WITH THE SEED: the statements are not yours to turn. If you find one false, say at which input.
  Laid BY PROGRAM, IN A SANDBOX (cutbox-rows.mjs): the forced cells as the released guide's own fill.sh prints them over the translation d32576c8b2814d84… (all of the seat's roots in one cut). By AI agents, Wed Nov 11 2026. No macro, syntax, notation, axiom, sorry.
-/
import Derived.Test.YtdppdbihhlipeaaGreatDoorChecked
import GoSem.Claim
import GoSem.ClaimJoined
import GoSem.ClaimMapViews
import Derived.JoinedTies
import Derived.KernelRfl
namespace Go.Proofs.YtdppdbihhlipeaaGreatDoor
/- THE CELL 'sum', in the pinned program and in every row, IS THE sha256 OF THE DUMP (.gsa) THAT YtdppdbihhlipeaaGreatDoorProg.lean LOADS. Nothing in Lean hashes anything: it is a label: what it is worth is what the hold of that sum in a sandbox is worth. -/
noncomputable def Tryz.pinned : Pinned := { name := "ytdppdbihhlipeaagreatdoor", sum := "d32576c8b2814d84455b62f780d3d4f1a776bcef179195e36b209c8499813035", checked := Tryz.checked }
namespace Rows
def none {H : Type} : Left H := { results := [], args := [] }

/- WHAT THE LISTED PACKAGE-LEVEL VARIABLES READ AS WHEN THE CALL BEGINS. Each datum BY PROGRAM (the guide's laid-datum.mjs) off the statement by which the dump's own 'gosem.cut.vars' lays the variable. In a bare row this is a premise. The card (YtdppdbihhlipeaaGreatDoorCards.lean) ties it to the program's text. -/
def laid_errors_errorType {H : Type} : DataW H := .iface "internal/reflectlite.rtype" (.agg [.ptr (.lit (.string [101, 114, 114, 111, 114]))])
def laid_loop_example_g00338_impl_errManyLocks {H : Type} : DataW H := .iface "*errors.errorString" (.ptr (.agg [.lit (.string [116, 104, 101, 114, 101, 32, 97, 114, 101, 32, 116, 111, 111, 32, 109, 97, 110, 121, 32, 108, 111, 99, 107, 115])]))
def laid_loop_example_g00338_impl_errUnreadable {H : Type} : DataW H := .iface "*errors.errorString" (.ptr (.agg [.lit (.string [116, 104, 105, 115, 32, 105, 115, 32, 110, 111, 32, 115, 116, 97, 116, 101, 109, 101, 110, 116])]))

/-- 'laws.FnExactLogOf': WHATEVER THE INPUT: true; the input reads as it did. -/
def fnExactLogOfSpec : ChangeSpec := { name := "fnExactLogOf", vars := ["loop.example/g00338/impl.errManyLocks"], fn := fun _ => fun
  | [d1, d2, g1] => { results := [.lit (.bool true)], args := [d1, d2], vars := [g1] }
  | _ => none }
def fnExactLogOfRow : OpenClaim := { program := "ytdppdbihhlipeaagreatdoor", sum := "d32576c8b2814d84455b62f780d3d4f1a776bcef179195e36b209c8499813035", func := "loop.example/g00338/laws.FnExactLogOf", spec := "fnExactLogOf", inPlace := ["slices.overlaps[loop.example/g00338/impl.Lock]", "internal/reflectlite.ValueOf", "(internal/reflectlite.Value).Type", "(internal/reflectlite.Value).IsNil", "internal/reflectlite.TypeOf", "(internal/reflectlite.Value).Elem", "(internal/reflectlite.Value).Set"], unfollowed := true, recurses := true, named := ["loop.example/g00338/impl.errManyLocks", "errors.errorType"], ifaces := true, plainKeys := false, apart := false, laid := [("errors.errorType", laid_errors_errorType), ("loop.example/g00338/impl.errManyLocks", laid_loop_example_g00338_impl_errManyLocks)] }
def FnExactLogOfSaid : Prop := fnExactLogOfRow.holds Tryz.pinned (OpenSpec.ofChange fnExactLogOfSpec)

/-- ITS FALSE NEIGHBOUR: 'it returns false'. Refute it at one input. -/
def fnExactLogOfWrong : ChangeSpec := { name := "fnExactLogOf", vars := ["loop.example/g00338/impl.errManyLocks"], fn := fun _ => fun
  | [d1, d2, g1] => { results := [.lit (.bool false)], args := [d1, d2], vars := [g1] }
  | _ => none }
def FnExactLogOfWrongFalsely : Prop := fnExactLogOfRow.holds Tryz.pinned (OpenSpec.ofChange fnExactLogOfWrong)

/-- 'laws.FnExactRecoverReplica': WHATEVER THE INPUT: true; the input reads as it did. -/
def fnExactRecoverReplicaSpec : ChangeSpec := { name := "fnExactRecoverReplica", vars := ["loop.example/g00338/impl.errUnreadable", "loop.example/g00338/impl.errManyLocks"], fn := fun _ => fun
  | [d1, d2, d3, g1, g2] => { results := [.lit (.bool true)], args := [d1, d2, d3], vars := [g1, g2] }
  | _ => none }
def fnExactRecoverReplicaRow : OpenClaim := { program := "ytdppdbihhlipeaagreatdoor", sum := "d32576c8b2814d84455b62f780d3d4f1a776bcef179195e36b209c8499813035", func := "loop.example/g00338/laws.FnExactRecoverReplica", spec := "fnExactRecoverReplica", inPlace := ["slices.overlaps[loop.example/g00338/impl.Lock]", "internal/reflectlite.ValueOf", "(internal/reflectlite.Value).Type", "(internal/reflectlite.Value).IsNil", "internal/reflectlite.TypeOf", "(internal/reflectlite.Value).Elem", "(internal/reflectlite.Value).Set"], unfollowed := true, recurses := true, named := ["loop.example/g00338/impl.errUnreadable", "loop.example/g00338/impl.errManyLocks", "errors.errorType"], ifaces := true, plainKeys := false, apart := false, laid := [("errors.errorType", laid_errors_errorType), ("loop.example/g00338/impl.errManyLocks", laid_loop_example_g00338_impl_errManyLocks), ("loop.example/g00338/impl.errUnreadable", laid_loop_example_g00338_impl_errUnreadable)] }
def FnExactRecoverReplicaSaid : Prop := fnExactRecoverReplicaRow.holds Tryz.pinned (OpenSpec.ofChange fnExactRecoverReplicaSpec)

/-- ITS FALSE NEIGHBOUR: 'it returns false'. Refute it at one input. -/
def fnExactRecoverReplicaWrong : ChangeSpec := { name := "fnExactRecoverReplica", vars := ["loop.example/g00338/impl.errUnreadable", "loop.example/g00338/impl.errManyLocks"], fn := fun _ => fun
  | [d1, d2, d3, g1, g2] => { results := [.lit (.bool false)], args := [d1, d2, d3], vars := [g1, g2] }
  | _ => none }
def FnExactRecoverReplicaWrongFalsely : Prop := fnExactRecoverReplicaRow.holds Tryz.pinned (OpenSpec.ofChange fnExactRecoverReplicaWrong)

/- THE SECOND FORM. 'bulk': how many values and letters a reading holds, each counted each time it is reached (what is shared counts as often as it is met; a slice's spare places count too). A statement '..UptoSaid' is the law's where the arguments, and the package variables that the reading takes, are together of bulk at most 1048576: NARROWER than '..Said'. Prove '..Said' where nothing that the law and all that it calls make is longer than what came in: it says more and counts as full. Else prove '..UptoSaid'. A law counts once. -/
mutual
def uptoBulk {H : Type} : DataW H → Nat
  | .lit (.string bytes) => bytes.length + 1
  | .lit _ => 1
  | .nil => 1
  | .ptr d => uptoBulk d + 1
  | .slice elems spare => uptoBulkAll elems + uptoBulkAll spare + 1
  | .agg parts => uptoBulkAll parts + 1
  | .iface _ d => uptoBulk d + 1
  | .map entries => uptoBulkEntries entries + 1
  | .held _ => 1
def uptoBulkAll {H : Type} : List (DataW H) → Nat
  | [] => 0
  | d :: r => uptoBulk d + uptoBulkAll r
def uptoBulkEntries {H : Type} : List (Lit × DataW H) → Nat
  | [] => 0
  | x :: r => uptoBulkEntry x + uptoBulkEntries r
def uptoBulkEntry {H : Type} : Lit × DataW H → Nat
  | (.string bytes, d) => bytes.length + uptoBulk d + 1
  | (_, d) => uptoBulk d + 1
 end
def uptoSmall : (H : Type) → List (DataW H) → Bool := fun _ ds => decide (uptoBulkAll ds ≤ 1048576)
def OpenSpec.upto (s : _root_.Go.ChangeSpec) : _root_.Go.OpenSpec := { _root_.Go.OpenSpec.ofChange s with cond := some uptoSmall }

/-- 'laws.FnExactLogOf', WHERE WHAT IT READS IS OF BULK AT MOST 1048576: true; the input reads as it did. -/
def fnExactLogOfUptoRow : OpenClaim := { program := "ytdppdbihhlipeaagreatdoor", sum := "d32576c8b2814d84455b62f780d3d4f1a776bcef179195e36b209c8499813035", func := "loop.example/g00338/laws.FnExactLogOf", spec := "fnExactLogOf", inPlace := ["slices.overlaps[loop.example/g00338/impl.Lock]", "internal/reflectlite.ValueOf", "(internal/reflectlite.Value).Type", "(internal/reflectlite.Value).IsNil", "internal/reflectlite.TypeOf", "(internal/reflectlite.Value).Elem", "(internal/reflectlite.Value).Set"], unfollowed := true, recurses := true, named := ["loop.example/g00338/impl.errManyLocks", "errors.errorType"], ifaces := true, plainKeys := false, apart := false, laid := [("errors.errorType", laid_errors_errorType), ("loop.example/g00338/impl.errManyLocks", laid_loop_example_g00338_impl_errManyLocks)], narrowed := true }
def FnExactLogOfUptoSaid : Prop := fnExactLogOfUptoRow.holds Tryz.pinned (OpenSpec.upto fnExactLogOfSpec)

/-- 'laws.FnExactRecoverReplica', WHERE WHAT IT READS IS OF BULK AT MOST 1048576: true; the input reads as it did. -/
def fnExactRecoverReplicaUptoRow : OpenClaim := { program := "ytdppdbihhlipeaagreatdoor", sum := "d32576c8b2814d84455b62f780d3d4f1a776bcef179195e36b209c8499813035", func := "loop.example/g00338/laws.FnExactRecoverReplica", spec := "fnExactRecoverReplica", inPlace := ["slices.overlaps[loop.example/g00338/impl.Lock]", "internal/reflectlite.ValueOf", "(internal/reflectlite.Value).Type", "(internal/reflectlite.Value).IsNil", "internal/reflectlite.TypeOf", "(internal/reflectlite.Value).Elem", "(internal/reflectlite.Value).Set"], unfollowed := true, recurses := true, named := ["loop.example/g00338/impl.errUnreadable", "loop.example/g00338/impl.errManyLocks", "errors.errorType"], ifaces := true, plainKeys := false, apart := false, laid := [("errors.errorType", laid_errors_errorType), ("loop.example/g00338/impl.errManyLocks", laid_loop_example_g00338_impl_errManyLocks), ("loop.example/g00338/impl.errUnreadable", laid_loop_example_g00338_impl_errUnreadable)], narrowed := true }
def FnExactRecoverReplicaUptoSaid : Prop := fnExactRecoverReplicaUptoRow.holds Tryz.pinned (OpenSpec.upto fnExactRecoverReplicaSpec)

end Rows
end Go.Proofs.YtdppdbihhlipeaaGreatDoor
