/-
  NARROWER THAN 'FOR EVERY INPUT', by the rows' own cells (each row's printed sentence says how): FnExactReplicaFault: ifaces, laid · FnExactMayEndorse: ifaces, laid · FnExactSyncReplica: ifaces, laid · FnExactEndorse: ifaces, laid · FnExactCrashReplica: ifaces, laid.
  DERIVED. THE GIVEN ROWS OF THIS SEAT. 5 by the template 'for every input the law returns true; each argument reads behind the call as it read before'; 0 by the template 'total and deterministic' (their statements: YtlhgjackapdmbaaGreatDoorTotals.lean).
  GIVEN WITH THE SEED: the statements are not yours to turn. If you find one false, say at which input.
  Laid BY PROGRAM, IN A SANDBOX (cutbox-rows.mjs): the forced cells as the released guide's own fill.sh prints them over the translation 6189ff3b38163b70… (all of the seat's roots in one cut). By AI agents, Wed Nov 11 2026. No macro, syntax, notation, axiom, sorry.
-/
import Derived.Test.YtlhgjackapdmbaaGreatDoorChecked
import GoSem.Claim
import GoSem.ClaimJoined
import GoSem.ClaimMapViews
import Derived.JoinedTies
import Derived.KernelRfl
namespace Go.Proofs.YtlhgjackapdmbaaGreatDoor
/- THE CELL 'sum', in the pinned program and in every row, IS THE sha256 OF THE DUMP (.gsa) THAT YtlhgjackapdmbaaGreatDoorProg.lean LOADS. Nothing in Lean hashes anything: it is a label: what it is worth is what the hold of that sum in a sandbox is worth. -/
noncomputable def Tryz.pinned : Pinned := { name := "ytlhgjackapdmbaagreatdoor", sum := "6189ff3b38163b70a4dff9dd66fbb767641a6559070ea5603e06c9f75d24e9b0", checked := Tryz.checked }
namespace Rows
def none {H : Type} : Left H := { results := [], args := [] }

/- WHAT THE LISTED PACKAGE-LEVEL VARIABLES READ AS WHEN THE CALL BEGINS. Each datum BY PROGRAM (the guide's laid-datum.mjs) off the statement by which the dump's own 'gosem.cut.vars' lays the variable. In a bare row this is a premise. The card (YtlhgjackapdmbaaGreatDoorCards.lean) ties it to the program's text. -/
def laid_errors_errorType {H : Type} : DataW H := .iface "internal/reflectlite.rtype" (.agg [.ptr (.lit (.string [101, 114, 114, 111, 114]))])
def laid_loop_example_g00338_impl_errManyLocks {H : Type} : DataW H := .iface "*errors.errorString" (.ptr (.agg [.lit (.string [116, 104, 101, 114, 101, 32, 97, 114, 101, 32, 116, 111, 111, 32, 109, 97, 110, 121, 32, 108, 111, 99, 107, 115])]))

/-- 'laws.FnExactReplicaFault': WHATEVER THE INPUT: true; the input reads as it did. -/
def fnExactReplicaFaultSpec : ChangeSpec := { name := "fnExactReplicaFault", vars := ["loop.example/g00338/impl.errManyLocks"], fn := fun _ => fun
  | [d1, d2, g1] => { results := [.lit (.bool true)], args := [d1, d2], vars := [g1] }
  | _ => none }
def fnExactReplicaFaultRow : OpenClaim := { program := "ytlhgjackapdmbaagreatdoor", sum := "6189ff3b38163b70a4dff9dd66fbb767641a6559070ea5603e06c9f75d24e9b0", func := "loop.example/g00338/laws.FnExactReplicaFault", spec := "fnExactReplicaFault", inPlace := ["slices.overlaps[loop.example/g00338/impl.Lock]", "internal/reflectlite.ValueOf", "(internal/reflectlite.Value).Type", "(internal/reflectlite.Value).IsNil", "internal/reflectlite.TypeOf", "(internal/reflectlite.Value).Elem", "(internal/reflectlite.Value).Set"], unfollowed := true, recurses := true, named := ["loop.example/g00338/impl.errManyLocks", "errors.errorType"], ifaces := true, plainKeys := false, apart := false, laid := [("errors.errorType", laid_errors_errorType), ("loop.example/g00338/impl.errManyLocks", laid_loop_example_g00338_impl_errManyLocks)] }
def FnExactReplicaFaultSaid : Prop := fnExactReplicaFaultRow.holds Tryz.pinned (OpenSpec.ofChange fnExactReplicaFaultSpec)

/-- ITS FALSE NEIGHBOUR: 'it returns false'. Refute it at one input. -/
def fnExactReplicaFaultWrong : ChangeSpec := { name := "fnExactReplicaFault", vars := ["loop.example/g00338/impl.errManyLocks"], fn := fun _ => fun
  | [d1, d2, g1] => { results := [.lit (.bool false)], args := [d1, d2], vars := [g1] }
  | _ => none }
def FnExactReplicaFaultWrongFalsely : Prop := fnExactReplicaFaultRow.holds Tryz.pinned (OpenSpec.ofChange fnExactReplicaFaultWrong)

/-- 'laws.FnExactMayEndorse': WHATEVER THE INPUT: true; the input reads as it did. -/
def fnExactMayEndorseSpec : ChangeSpec := { name := "fnExactMayEndorse", vars := ["loop.example/g00338/impl.errManyLocks"], fn := fun _ => fun
  | [d1, d2, d3, g1] => { results := [.lit (.bool true)], args := [d1, d2, d3], vars := [g1] }
  | _ => none }
def fnExactMayEndorseRow : OpenClaim := { program := "ytlhgjackapdmbaagreatdoor", sum := "6189ff3b38163b70a4dff9dd66fbb767641a6559070ea5603e06c9f75d24e9b0", func := "loop.example/g00338/laws.FnExactMayEndorse", spec := "fnExactMayEndorse", inPlace := ["slices.overlaps[loop.example/g00338/impl.Lock]", "internal/reflectlite.ValueOf", "(internal/reflectlite.Value).Type", "(internal/reflectlite.Value).IsNil", "internal/reflectlite.TypeOf", "(internal/reflectlite.Value).Elem", "(internal/reflectlite.Value).Set"], unfollowed := true, recurses := true, named := ["loop.example/g00338/impl.errManyLocks", "errors.errorType"], ifaces := true, plainKeys := false, apart := false, laid := [("errors.errorType", laid_errors_errorType), ("loop.example/g00338/impl.errManyLocks", laid_loop_example_g00338_impl_errManyLocks)] }
def FnExactMayEndorseSaid : Prop := fnExactMayEndorseRow.holds Tryz.pinned (OpenSpec.ofChange fnExactMayEndorseSpec)

/-- ITS FALSE NEIGHBOUR: 'it returns false'. Refute it at one input. -/
def fnExactMayEndorseWrong : ChangeSpec := { name := "fnExactMayEndorse", vars := ["loop.example/g00338/impl.errManyLocks"], fn := fun _ => fun
  | [d1, d2, d3, g1] => { results := [.lit (.bool false)], args := [d1, d2, d3], vars := [g1] }
  | _ => none }
def FnExactMayEndorseWrongFalsely : Prop := fnExactMayEndorseRow.holds Tryz.pinned (OpenSpec.ofChange fnExactMayEndorseWrong)

/-- 'laws.FnExactSyncReplica': WHATEVER THE INPUT: true; the input reads as it did. -/
def fnExactSyncReplicaSpec : ChangeSpec := { name := "fnExactSyncReplica", vars := ["loop.example/g00338/impl.errManyLocks"], fn := fun _ => fun
  | [d1, d2, g1] => { results := [.lit (.bool true)], args := [d1, d2], vars := [g1] }
  | _ => none }
def fnExactSyncReplicaRow : OpenClaim := { program := "ytlhgjackapdmbaagreatdoor", sum := "6189ff3b38163b70a4dff9dd66fbb767641a6559070ea5603e06c9f75d24e9b0", func := "loop.example/g00338/laws.FnExactSyncReplica", spec := "fnExactSyncReplica", inPlace := ["slices.overlaps[loop.example/g00338/impl.Lock]", "internal/reflectlite.ValueOf", "(internal/reflectlite.Value).Type", "(internal/reflectlite.Value).IsNil", "internal/reflectlite.TypeOf", "(internal/reflectlite.Value).Elem", "(internal/reflectlite.Value).Set"], unfollowed := true, recurses := true, named := ["loop.example/g00338/impl.errManyLocks", "errors.errorType"], ifaces := true, plainKeys := false, apart := false, laid := [("errors.errorType", laid_errors_errorType), ("loop.example/g00338/impl.errManyLocks", laid_loop_example_g00338_impl_errManyLocks)] }
def FnExactSyncReplicaSaid : Prop := fnExactSyncReplicaRow.holds Tryz.pinned (OpenSpec.ofChange fnExactSyncReplicaSpec)

/-- ITS FALSE NEIGHBOUR: 'it returns false'. Refute it at one input. -/
def fnExactSyncReplicaWrong : ChangeSpec := { name := "fnExactSyncReplica", vars := ["loop.example/g00338/impl.errManyLocks"], fn := fun _ => fun
  | [d1, d2, g1] => { results := [.lit (.bool false)], args := [d1, d2], vars := [g1] }
  | _ => none }
def FnExactSyncReplicaWrongFalsely : Prop := fnExactSyncReplicaRow.holds Tryz.pinned (OpenSpec.ofChange fnExactSyncReplicaWrong)

/-- 'laws.FnExactEndorse': WHATEVER THE INPUT: true; the input reads as it did. -/
def fnExactEndorseSpec : ChangeSpec := { name := "fnExactEndorse", vars := ["loop.example/g00338/impl.errManyLocks"], fn := fun _ => fun
  | [d1, d2, d3, g1] => { results := [.lit (.bool true)], args := [d1, d2, d3], vars := [g1] }
  | _ => none }
def fnExactEndorseRow : OpenClaim := { program := "ytlhgjackapdmbaagreatdoor", sum := "6189ff3b38163b70a4dff9dd66fbb767641a6559070ea5603e06c9f75d24e9b0", func := "loop.example/g00338/laws.FnExactEndorse", spec := "fnExactEndorse", inPlace := ["slices.overlaps[loop.example/g00338/impl.Lock]", "internal/reflectlite.ValueOf", "(internal/reflectlite.Value).Type", "(internal/reflectlite.Value).IsNil", "internal/reflectlite.TypeOf", "(internal/reflectlite.Value).Elem", "(internal/reflectlite.Value).Set"], unfollowed := true, recurses := true, named := ["loop.example/g00338/impl.errManyLocks", "errors.errorType"], ifaces := true, plainKeys := false, apart := false, laid := [("errors.errorType", laid_errors_errorType), ("loop.example/g00338/impl.errManyLocks", laid_loop_example_g00338_impl_errManyLocks)] }
def FnExactEndorseSaid : Prop := fnExactEndorseRow.holds Tryz.pinned (OpenSpec.ofChange fnExactEndorseSpec)

/-- ITS FALSE NEIGHBOUR: 'it returns false'. Refute it at one input. -/
def fnExactEndorseWrong : ChangeSpec := { name := "fnExactEndorse", vars := ["loop.example/g00338/impl.errManyLocks"], fn := fun _ => fun
  | [d1, d2, d3, g1] => { results := [.lit (.bool false)], args := [d1, d2, d3], vars := [g1] }
  | _ => none }
def FnExactEndorseWrongFalsely : Prop := fnExactEndorseRow.holds Tryz.pinned (OpenSpec.ofChange fnExactEndorseWrong)

/-- 'laws.FnExactCrashReplica': WHATEVER THE INPUT: true; the input reads as it did. -/
def fnExactCrashReplicaSpec : ChangeSpec := { name := "fnExactCrashReplica", vars := ["loop.example/g00338/impl.errManyLocks"], fn := fun _ => fun
  | [d1, d2, d3, g1] => { results := [.lit (.bool true)], args := [d1, d2, d3], vars := [g1] }
  | _ => none }
def fnExactCrashReplicaRow : OpenClaim := { program := "ytlhgjackapdmbaagreatdoor", sum := "6189ff3b38163b70a4dff9dd66fbb767641a6559070ea5603e06c9f75d24e9b0", func := "loop.example/g00338/laws.FnExactCrashReplica", spec := "fnExactCrashReplica", inPlace := ["slices.overlaps[loop.example/g00338/impl.Lock]", "internal/reflectlite.ValueOf", "(internal/reflectlite.Value).Type", "(internal/reflectlite.Value).IsNil", "internal/reflectlite.TypeOf", "(internal/reflectlite.Value).Elem", "(internal/reflectlite.Value).Set"], unfollowed := true, recurses := true, named := ["loop.example/g00338/impl.errManyLocks", "errors.errorType"], ifaces := true, plainKeys := false, apart := false, laid := [("errors.errorType", laid_errors_errorType), ("loop.example/g00338/impl.errManyLocks", laid_loop_example_g00338_impl_errManyLocks)] }
def FnExactCrashReplicaSaid : Prop := fnExactCrashReplicaRow.holds Tryz.pinned (OpenSpec.ofChange fnExactCrashReplicaSpec)

/-- ITS FALSE NEIGHBOUR: 'it returns false'. Refute it at one input. -/
def fnExactCrashReplicaWrong : ChangeSpec := { name := "fnExactCrashReplica", vars := ["loop.example/g00338/impl.errManyLocks"], fn := fun _ => fun
  | [d1, d2, d3, g1] => { results := [.lit (.bool false)], args := [d1, d2, d3], vars := [g1] }
  | _ => none }
def FnExactCrashReplicaWrongFalsely : Prop := fnExactCrashReplicaRow.holds Tryz.pinned (OpenSpec.ofChange fnExactCrashReplicaWrong)

/- THE SECOND FORM. 'bulk': how many values and letters a reading holds, each counted each time it is reached (what is shared counts as often as it is met; a slice's spare places count too). A statement '..UptoSaid' is the law's where the arguments, and the package variables that the reading takes, are together of bulk at most 1048576: NARROWER than '..Said'. Prove '..Said' where nothing that the law and all that it calls make is longer than what came in: it says more and counts as full. Else prove '..UptoSaid'. A law counts once. -/
mutual
def uptoBulk {H : Type} : DataW H → Nat
  | .lit (.string bytes) => bytes.length + 1
  | .lit _ => 1
  | .nil => 1
  | .ptr d => uptoBulk d + 1
  | .slice elems spare => uptoBulkAll elems + uptoBulkAll spare + 1
  | .agg parts => uptoBulkAll parts + 1
  | .iface _ d => uptoBulk d + 1
  | .map entries => uptoBulkEntries entries + 1
  | .held _ => 1
def uptoBulkAll {H : Type} : List (DataW H) → Nat
  | [] => 0
  | d :: r => uptoBulk d + uptoBulkAll r
def uptoBulkEntries {H : Type} : List (Lit × DataW H) → Nat
  | [] => 0
  | x :: r => uptoBulkEntry x + uptoBulkEntries r
def uptoBulkEntry {H : Type} : Lit × DataW H → Nat
  | (.string bytes, d) => bytes.length + uptoBulk d + 1
  | (_, d) => uptoBulk d + 1
 end
def uptoSmall : (H : Type) → List (DataW H) → Bool := fun _ ds => decide (uptoBulkAll ds ≤ 1048576)
def OpenSpec.upto (s : _root_.Go.ChangeSpec) : _root_.Go.OpenSpec := { _root_.Go.OpenSpec.ofChange s with cond := some uptoSmall }

/-- 'laws.FnExactReplicaFault', WHERE WHAT IT READS IS OF BULK AT MOST 1048576: true; the input reads as it did. -/
def fnExactReplicaFaultUptoRow : OpenClaim := { program := "ytlhgjackapdmbaagreatdoor", sum := "6189ff3b38163b70a4dff9dd66fbb767641a6559070ea5603e06c9f75d24e9b0", func := "loop.example/g00338/laws.FnExactReplicaFault", spec := "fnExactReplicaFault", inPlace := ["slices.overlaps[loop.example/g00338/impl.Lock]", "internal/reflectlite.ValueOf", "(internal/reflectlite.Value).Type", "(internal/reflectlite.Value).IsNil", "internal/reflectlite.TypeOf", "(internal/reflectlite.Value).Elem", "(internal/reflectlite.Value).Set"], unfollowed := true, recurses := true, named := ["loop.example/g00338/impl.errManyLocks", "errors.errorType"], ifaces := true, plainKeys := false, apart := false, laid := [("errors.errorType", laid_errors_errorType), ("loop.example/g00338/impl.errManyLocks", laid_loop_example_g00338_impl_errManyLocks)], narrowed := true }
def FnExactReplicaFaultUptoSaid : Prop := fnExactReplicaFaultUptoRow.holds Tryz.pinned (OpenSpec.upto fnExactReplicaFaultSpec)

/-- 'laws.FnExactMayEndorse', WHERE WHAT IT READS IS OF BULK AT MOST 1048576: true; the input reads as it did. -/
def fnExactMayEndorseUptoRow : OpenClaim := { program := "ytlhgjackapdmbaagreatdoor", sum := "6189ff3b38163b70a4dff9dd66fbb767641a6559070ea5603e06c9f75d24e9b0", func := "loop.example/g00338/laws.FnExactMayEndorse", spec := "fnExactMayEndorse", inPlace := ["slices.overlaps[loop.example/g00338/impl.Lock]", "internal/reflectlite.ValueOf", "(internal/reflectlite.Value).Type", "(internal/reflectlite.Value).IsNil", "internal/reflectlite.TypeOf", "(internal/reflectlite.Value).Elem", "(internal/reflectlite.Value).Set"], unfollowed := true, recurses := true, named := ["loop.example/g00338/impl.errManyLocks", "errors.errorType"], ifaces := true, plainKeys := false, apart := false, laid := [("errors.errorType", laid_errors_errorType), ("loop.example/g00338/impl.errManyLocks", laid_loop_example_g00338_impl_errManyLocks)], narrowed := true }
def FnExactMayEndorseUptoSaid : Prop := fnExactMayEndorseUptoRow.holds Tryz.pinned (OpenSpec.upto fnExactMayEndorseSpec)

/-- 'laws.FnExactSyncReplica', WHERE WHAT IT READS IS OF BULK AT MOST 1048576: true; the input reads as it did. -/
def fnExactSyncReplicaUptoRow : OpenClaim := { program := "ytlhgjackapdmbaagreatdoor", sum := "6189ff3b38163b70a4dff9dd66fbb767641a6559070ea5603e06c9f75d24e9b0", func := "loop.example/g00338/laws.FnExactSyncReplica", spec := "fnExactSyncReplica", inPlace := ["slices.overlaps[loop.example/g00338/impl.Lock]", "internal/reflectlite.ValueOf", "(internal/reflectlite.Value).Type", "(internal/reflectlite.Value).IsNil", "internal/reflectlite.TypeOf", "(internal/reflectlite.Value).Elem", "(internal/reflectlite.Value).Set"], unfollowed := true, recurses := true, named := ["loop.example/g00338/impl.errManyLocks", "errors.errorType"], ifaces := true, plainKeys := false, apart := false, laid := [("errors.errorType", laid_errors_errorType), ("loop.example/g00338/impl.errManyLocks", laid_loop_example_g00338_impl_errManyLocks)], narrowed := true }
def FnExactSyncReplicaUptoSaid : Prop := fnExactSyncReplicaUptoRow.holds Tryz.pinned (OpenSpec.upto fnExactSyncReplicaSpec)

/-- 'laws.FnExactEndorse', WHERE WHAT IT READS IS OF BULK AT MOST 1048576: true; the input reads as it did. -/
def fnExactEndorseUptoRow : OpenClaim := { program := "ytlhgjackapdmbaagreatdoor", sum := "6189ff3b38163b70a4dff9dd66fbb767641a6559070ea5603e06c9f75d24e9b0", func := "loop.example/g00338/laws.FnExactEndorse", spec := "fnExactEndorse", inPlace := ["slices.overlaps[loop.example/g00338/impl.Lock]", "internal/reflectlite.ValueOf", "(internal/reflectlite.Value).Type", "(internal/reflectlite.Value).IsNil", "internal/reflectlite.TypeOf", "(internal/reflectlite.Value).Elem", "(internal/reflectlite.Value).Set"], unfollowed := true, recurses := true, named := ["loop.example/g00338/impl.errManyLocks", "errors.errorType"], ifaces := true, plainKeys := false, apart := false, laid := [("errors.errorType", laid_errors_errorType), ("loop.example/g00338/impl.errManyLocks", laid_loop_example_g00338_impl_errManyLocks)], narrowed := true }
def FnExactEndorseUptoSaid : Prop := fnExactEndorseUptoRow.holds Tryz.pinned (OpenSpec.upto fnExactEndorseSpec)

/-- 'laws.FnExactCrashReplica', WHERE WHAT IT READS IS OF BULK AT MOST 1048576: true; the input reads as it did. -/
def fnExactCrashReplicaUptoRow : OpenClaim := { program := "ytlhgjackapdmbaagreatdoor", sum := "6189ff3b38163b70a4dff9dd66fbb767641a6559070ea5603e06c9f75d24e9b0", func := "loop.example/g00338/laws.FnExactCrashReplica", spec := "fnExactCrashReplica", inPlace := ["slices.overlaps[loop.example/g00338/impl.Lock]", "internal/reflectlite.ValueOf", "(internal/reflectlite.Value).Type", "(internal/reflectlite.Value).IsNil", "internal/reflectlite.TypeOf", "(internal/reflectlite.Value).Elem", "(internal/reflectlite.Value).Set"], unfollowed := true, recurses := true, named := ["loop.example/g00338/impl.errManyLocks", "errors.errorType"], ifaces := true, plainKeys := false, apart := false, laid := [("errors.errorType", laid_errors_errorType), ("loop.example/g00338/impl.errManyLocks", laid_loop_example_g00338_impl_errManyLocks)], narrowed := true }
def FnExactCrashReplicaUptoSaid : Prop := fnExactCrashReplicaUptoRow.holds Tryz.pinned (OpenSpec.upto fnExactCrashReplicaSpec)

end Rows
end Go.Proofs.YtlhgjackapdmbaaGreatDoor
