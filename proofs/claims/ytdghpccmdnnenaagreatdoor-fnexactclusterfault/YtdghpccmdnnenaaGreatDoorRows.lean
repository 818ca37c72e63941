/-
  NARROWER THAN 'FOR EVERY INPUT', by the rows' own cells (each row's printed sentence says how): FnExactClusterFault: ifaces, laid · FnExactSignedOf: ifaces, laid · FnExactStoodBy: ifaces, laid · FnExactSodRight: ifaces, laid · FnExactForkRight: ifaces, laid · FnExactPolicyRight: ifaces, laid · FnExactStoodRight: ifaces, laid · FnExactConfigIn: ifaces, laid.
  DERIVED. THE GIVEN ROWS OF THIS SEAT. 8 by the template 'for every input the law returns true; each argument reads behind the call as it read before'; 0 by the template 'total and deterministic' (their statements: YtdghpccmdnnenaaGreatDoorTotals.lean).
  GIVEN WITH THE SEED: the statements are not yours to turn. If you find one false, say at which input.
  Laid BY PROGRAM, IN A SANDBOX (cutbox-rows.mjs): the forced cells as the released guide's own fill.sh prints them over the translation a1cd11e9cdc7085f… (all of the seat's roots in one cut). By AI agents, Wed Nov 11 2026. No macro, syntax, notation, axiom, sorry.
-/
import Derived.Test.YtdghpccmdnnenaaGreatDoorChecked
import GoSem.Claim
import GoSem.ClaimJoined
import GoSem.ClaimMapViews
import Derived.JoinedTies
import Derived.KernelRfl
namespace Go.Proofs.YtdghpccmdnnenaaGreatDoor
/- THE CELL 'sum', in the pinned program and in every row, IS THE sha256 OF THE DUMP (.gsa) THAT YtdghpccmdnnenaaGreatDoorProg.lean LOADS. Nothing in Lean hashes anything: it is a label: what it is worth is what the hold of that sum in a sandbox is worth. -/
noncomputable def Tryz.pinned : Pinned := { name := "ytdghpccmdnnenaagreatdoor", sum := "a1cd11e9cdc7085fe85e6ca8d535efe3698d8bcea21937d0b8c94124ba3a3e7b", checked := Tryz.checked }
namespace Rows
def none {H : Type} : Left H := { results := [], args := [] }

/- WHAT THE LISTED PACKAGE-LEVEL VARIABLES READ AS WHEN THE CALL BEGINS. Each datum BY PROGRAM (the guide's laid-datum.mjs) off the statement by which the dump's own 'gosem.cut.vars' lays the variable. In a bare row this is a premise. The card (YtdghpccmdnnenaaGreatDoorCards.lean) ties it to the program's text. -/
def laid_errors_errorType {H : Type} : DataW H := .iface "internal/reflectlite.rtype" (.agg [.ptr (.lit (.string [101, 114, 114, 111, 114]))])
def laid_loop_example_g00338_impl_errManyLocks {H : Type} : DataW H := .iface "*errors.errorString" (.ptr (.agg [.lit (.string [116, 104, 101, 114, 101, 32, 97, 114, 101, 32, 116, 111, 111, 32, 109, 97, 110, 121, 32, 108, 111, 99, 107, 115])]))

/-- 'laws.FnExactClusterFault': WHATEVER THE INPUT: true; the input reads as it did. -/
def fnExactClusterFaultSpec : ChangeSpec := { name := "fnExactClusterFault", vars := ["loop.example/g00338/impl.errManyLocks"], fn := fun _ => fun
  | [d, g1] => { results := [.lit (.bool true)], args := [d], vars := [g1] }
  | _ => none }
def fnExactClusterFaultRow : OpenClaim := { program := "ytdghpccmdnnenaagreatdoor", sum := "a1cd11e9cdc7085fe85e6ca8d535efe3698d8bcea21937d0b8c94124ba3a3e7b", func := "loop.example/g00338/laws.FnExactClusterFault", spec := "fnExactClusterFault", inPlace := ["slices.overlaps[loop.example/g00338/impl.Lock]", "internal/reflectlite.ValueOf", "(internal/reflectlite.Value).Type", "(internal/reflectlite.Value).IsNil", "internal/reflectlite.TypeOf", "(internal/reflectlite.Value).Elem", "(internal/reflectlite.Value).Set"], unfollowed := true, recurses := true, named := ["loop.example/g00338/impl.errManyLocks", "errors.errorType"], ifaces := true, plainKeys := false, apart := false, laid := [("errors.errorType", laid_errors_errorType), ("loop.example/g00338/impl.errManyLocks", laid_loop_example_g00338_impl_errManyLocks)] }
def FnExactClusterFaultSaid : Prop := fnExactClusterFaultRow.holds Tryz.pinned (OpenSpec.ofChange fnExactClusterFaultSpec)

/-- ITS FALSE NEIGHBOUR: 'it returns false'. Refute it at one input. -/
def fnExactClusterFaultWrong : ChangeSpec := { name := "fnExactClusterFault", vars := ["loop.example/g00338/impl.errManyLocks"], fn := fun _ => fun
  | [d, g1] => { results := [.lit (.bool false)], args := [d], vars := [g1] }
  | _ => none }
def FnExactClusterFaultWrongFalsely : Prop := fnExactClusterFaultRow.holds Tryz.pinned (OpenSpec.ofChange fnExactClusterFaultWrong)

/-- 'laws.FnExactSignedOf': WHATEVER THE INPUT: true; the input reads as it did. -/
def fnExactSignedOfSpec : ChangeSpec := { name := "fnExactSignedOf", vars := ["loop.example/g00338/impl.errManyLocks"], fn := fun _ => fun
  | [d, g1] => { results := [.lit (.bool true)], args := [d], vars := [g1] }
  | _ => none }
def fnExactSignedOfRow : OpenClaim := { program := "ytdghpccmdnnenaagreatdoor", sum := "a1cd11e9cdc7085fe85e6ca8d535efe3698d8bcea21937d0b8c94124ba3a3e7b", func := "loop.example/g00338/laws.FnExactSignedOf", spec := "fnExactSignedOf", inPlace := ["slices.overlaps[loop.example/g00338/impl.Lock]", "internal/reflectlite.ValueOf", "(internal/reflectlite.Value).Type", "(internal/reflectlite.Value).IsNil", "internal/reflectlite.TypeOf", "(internal/reflectlite.Value).Elem", "(internal/reflectlite.Value).Set"], unfollowed := true, recurses := true, named := ["loop.example/g00338/impl.errManyLocks", "errors.errorType"], ifaces := true, plainKeys := false, apart := false, laid := [("errors.errorType", laid_errors_errorType), ("loop.example/g00338/impl.errManyLocks", laid_loop_example_g00338_impl_errManyLocks)] }
def FnExactSignedOfSaid : Prop := fnExactSignedOfRow.holds Tryz.pinned (OpenSpec.ofChange fnExactSignedOfSpec)

/-- ITS FALSE NEIGHBOUR: 'it returns false'. Refute it at one input. -/
def fnExactSignedOfWrong : ChangeSpec := { name := "fnExactSignedOf", vars := ["loop.example/g00338/impl.errManyLocks"], fn := fun _ => fun
  | [d, g1] => { results := [.lit (.bool false)], args := [d], vars := [g1] }
  | _ => none }
def FnExactSignedOfWrongFalsely : Prop := fnExactSignedOfRow.holds Tryz.pinned (OpenSpec.ofChange fnExactSignedOfWrong)

/-- 'laws.FnExactStoodBy': WHATEVER THE INPUT: true; the input reads as it did. -/
def fnExactStoodBySpec : ChangeSpec := { name := "fnExactStoodBy", vars := ["loop.example/g00338/impl.errManyLocks"], fn := fun _ => fun
  | [d1, d2, g1] => { results := [.lit (.bool true)], args := [d1, d2], vars := [g1] }
  | _ => none }
def fnExactStoodByRow : OpenClaim := { program := "ytdghpccmdnnenaagreatdoor", sum := "a1cd11e9cdc7085fe85e6ca8d535efe3698d8bcea21937d0b8c94124ba3a3e7b", func := "loop.example/g00338/laws.FnExactStoodBy", spec := "fnExactStoodBy", inPlace := ["slices.overlaps[loop.example/g00338/impl.Lock]", "internal/reflectlite.ValueOf", "(internal/reflectlite.Value).Type", "(internal/reflectlite.Value).IsNil", "internal/reflectlite.TypeOf", "(internal/reflectlite.Value).Elem", "(internal/reflectlite.Value).Set"], unfollowed := true, recurses := true, named := ["loop.example/g00338/impl.errManyLocks", "errors.errorType"], ifaces := true, plainKeys := false, apart := false, laid := [("errors.errorType", laid_errors_errorType), ("loop.example/g00338/impl.errManyLocks", laid_loop_example_g00338_impl_errManyLocks)] }
def FnExactStoodBySaid : Prop := fnExactStoodByRow.holds Tryz.pinned (OpenSpec.ofChange fnExactStoodBySpec)

/-- ITS FALSE NEIGHBOUR: 'it returns false'. Refute it at one input. -/
def fnExactStoodByWrong : ChangeSpec := { name := "fnExactStoodBy", vars := ["loop.example/g00338/impl.errManyLocks"], fn := fun _ => fun
  | [d1, d2, g1] => { results := [.lit (.bool false)], args := [d1, d2], vars := [g1] }
  | _ => none }
def FnExactStoodByWrongFalsely : Prop := fnExactStoodByRow.holds Tryz.pinned (OpenSpec.ofChange fnExactStoodByWrong)

/-- 'laws.FnExactSodRight': WHATEVER THE INPUT: true; the input reads as it did. -/
def fnExactSodRightSpec : ChangeSpec := { name := "fnExactSodRight", vars := ["loop.example/g00338/impl.errManyLocks"], fn := fun _ => fun
  | [d, g1] => { results := [.lit (.bool true)], args := [d], vars := [g1] }
  | _ => none }
def fnExactSodRightRow : OpenClaim := { program := "ytdghpccmdnnenaagreatdoor", sum := "a1cd11e9cdc7085fe85e6ca8d535efe3698d8bcea21937d0b8c94124ba3a3e7b", func := "loop.example/g00338/laws.FnExactSodRight", spec := "fnExactSodRight", inPlace := ["slices.overlaps[loop.example/g00338/impl.Lock]", "internal/reflectlite.ValueOf", "(internal/reflectlite.Value).Type", "(internal/reflectlite.Value).IsNil", "internal/reflectlite.TypeOf", "(internal/reflectlite.Value).Elem", "(internal/reflectlite.Value).Set"], unfollowed := true, recurses := true, named := ["loop.example/g00338/impl.errManyLocks", "errors.errorType"], ifaces := true, plainKeys := false, apart := false, laid := [("errors.errorType", laid_errors_errorType), ("loop.example/g00338/impl.errManyLocks", laid_loop_example_g00338_impl_errManyLocks)] }
def FnExactSodRightSaid : Prop := fnExactSodRightRow.holds Tryz.pinned (OpenSpec.ofChange fnExactSodRightSpec)

/-- ITS FALSE NEIGHBOUR: 'it returns false'. Refute it at one input. -/
def fnExactSodRightWrong : ChangeSpec := { name := "fnExactSodRight", vars := ["loop.example/g00338/impl.errManyLocks"], fn := fun _ => fun
  | [d, g1] => { results := [.lit (.bool false)], args := [d], vars := [g1] }
  | _ => none }
def FnExactSodRightWrongFalsely : Prop := fnExactSodRightRow.holds Tryz.pinned (OpenSpec.ofChange fnExactSodRightWrong)

/-- 'laws.FnExactForkRight': WHATEVER THE INPUT: true; the input reads as it did. -/
def fnExactForkRightSpec : ChangeSpec := { name := "fnExactForkRight", vars := ["loop.example/g00338/impl.errManyLocks"], fn := fun _ => fun
  | [d, g1] => { results := [.lit (.bool true)], args := [d], vars := [g1] }
  | _ => none }
def fnExactForkRightRow : OpenClaim := { program := "ytdghpccmdnnenaagreatdoor", sum := "a1cd11e9cdc7085fe85e6ca8d535efe3698d8bcea21937d0b8c94124ba3a3e7b", func := "loop.example/g00338/laws.FnExactForkRight", spec := "fnExactForkRight", inPlace := ["slices.overlaps[loop.example/g00338/impl.Lock]", "internal/reflectlite.ValueOf", "(internal/reflectlite.Value).Type", "(internal/reflectlite.Value).IsNil", "internal/reflectlite.TypeOf", "(internal/reflectlite.Value).Elem", "(internal/reflectlite.Value).Set"], unfollowed := true, recurses := true, named := ["loop.example/g00338/impl.errManyLocks", "errors.errorType"], ifaces := true, plainKeys := false, apart := false, laid := [("errors.errorType", laid_errors_errorType), ("loop.example/g00338/impl.errManyLocks", laid_loop_example_g00338_impl_errManyLocks)] }
def FnExactForkRightSaid : Prop := fnExactForkRightRow.holds Tryz.pinned (OpenSpec.ofChange fnExactForkRightSpec)

/-- ITS FALSE NEIGHBOUR: 'it returns false'. Refute it at one input. -/
def fnExactForkRightWrong : ChangeSpec := { name := "fnExactForkRight", vars := ["loop.example/g00338/impl.errManyLocks"], fn := fun _ => fun
  | [d, g1] => { results := [.lit (.bool false)], args := [d], vars := [g1] }
  | _ => none }
def FnExactForkRightWrongFalsely : Prop := fnExactForkRightRow.holds Tryz.pinned (OpenSpec.ofChange fnExactForkRightWrong)

/-- 'laws.FnExactPolicyRight': WHATEVER THE INPUT: true; the input reads as it did. -/
def fnExactPolicyRightSpec : ChangeSpec := { name := "fnExactPolicyRight", vars := ["loop.example/g00338/impl.errManyLocks"], fn := fun _ => fun
  | [d, g1] => { results := [.lit (.bool true)], args := [d], vars := [g1] }
  | _ => none }
def fnExactPolicyRightRow : OpenClaim := { program := "ytdghpccmdnnenaagreatdoor", sum := "a1cd11e9cdc7085fe85e6ca8d535efe3698d8bcea21937d0b8c94124ba3a3e7b", func := "loop.example/g00338/laws.FnExactPolicyRight", spec := "fnExactPolicyRight", inPlace := ["slices.overlaps[loop.example/g00338/impl.Lock]", "internal/reflectlite.ValueOf", "(internal/reflectlite.Value).Type", "(internal/reflectlite.Value).IsNil", "internal/reflectlite.TypeOf", "(internal/reflectlite.Value).Elem", "(internal/reflectlite.Value).Set"], unfollowed := true, recurses := true, named := ["loop.example/g00338/impl.errManyLocks", "errors.errorType"], ifaces := true, plainKeys := false, apart := false, laid := [("errors.errorType", laid_errors_errorType), ("loop.example/g00338/impl.errManyLocks", laid_loop_example_g00338_impl_errManyLocks)] }
def FnExactPolicyRightSaid : Prop := fnExactPolicyRightRow.holds Tryz.pinned (OpenSpec.ofChange fnExactPolicyRightSpec)

/-- ITS FALSE NEIGHBOUR: 'it returns false'. Refute it at one input. -/
def fnExactPolicyRightWrong : ChangeSpec := { name := "fnExactPolicyRight", vars := ["loop.example/g00338/impl.errManyLocks"], fn := fun _ => fun
  | [d, g1] => { results := [.lit (.bool false)], args := [d], vars := [g1] }
  | _ => none }
def FnExactPolicyRightWrongFalsely : Prop := fnExactPolicyRightRow.holds Tryz.pinned (OpenSpec.ofChange fnExactPolicyRightWrong)

/-- 'laws.FnExactStoodRight': WHATEVER THE INPUT: true; the input reads as it did. -/
def fnExactStoodRightSpec : ChangeSpec := { name := "fnExactStoodRight", vars := ["loop.example/g00338/impl.errManyLocks"], fn := fun _ => fun
  | [d, g1] => { results := [.lit (.bool true)], args := [d], vars := [g1] }
  | _ => none }
def fnExactStoodRightRow : OpenClaim := { program := "ytdghpccmdnnenaagreatdoor", sum := "a1cd11e9cdc7085fe85e6ca8d535efe3698d8bcea21937d0b8c94124ba3a3e7b", func := "loop.example/g00338/laws.FnExactStoodRight", spec := "fnExactStoodRight", inPlace := ["slices.overlaps[loop.example/g00338/impl.Lock]", "internal/reflectlite.ValueOf", "(internal/reflectlite.Value).Type", "(internal/reflectlite.Value).IsNil", "internal/reflectlite.TypeOf", "(internal/reflectlite.Value).Elem", "(internal/reflectlite.Value).Set"], unfollowed := true, recurses := true, named := ["loop.example/g00338/impl.errManyLocks", "errors.errorType"], ifaces := true, plainKeys := false, apart := false, laid := [("errors.errorType", laid_errors_errorType), ("loop.example/g00338/impl.errManyLocks", laid_loop_example_g00338_impl_errManyLocks)] }
def FnExactStoodRightSaid : Prop := fnExactStoodRightRow.holds Tryz.pinned (OpenSpec.ofChange fnExactStoodRightSpec)

/-- ITS FALSE NEIGHBOUR: 'it returns false'. Refute it at one input. -/
def fnExactStoodRightWrong : ChangeSpec := { name := "fnExactStoodRight", vars := ["loop.example/g00338/impl.errManyLocks"], fn := fun _ => fun
  | [d, g1] => { results := [.lit (.bool false)], args := [d], vars := [g1] }
  | _ => none }
def FnExactStoodRightWrongFalsely : Prop := fnExactStoodRightRow.holds Tryz.pinned (OpenSpec.ofChange fnExactStoodRightWrong)

/-- 'laws.FnExactConfigIn': WHATEVER THE INPUT: true; the input reads as it did. -/
def fnExactConfigInSpec : ChangeSpec := { name := "fnExactConfigIn", vars := ["loop.example/g00338/impl.errManyLocks"], fn := fun _ => fun
  | [d1, d2, g1] => { results := [.lit (.bool true)], args := [d1, d2], vars := [g1] }
  | _ => none }
def fnExactConfigInRow : OpenClaim := { program := "ytdghpccmdnnenaagreatdoor", sum := "a1cd11e9cdc7085fe85e6ca8d535efe3698d8bcea21937d0b8c94124ba3a3e7b", func := "loop.example/g00338/laws.FnExactConfigIn", spec := "fnExactConfigIn", inPlace := ["slices.overlaps[loop.example/g00338/impl.Lock]", "internal/reflectlite.ValueOf", "(internal/reflectlite.Value).Type", "(internal/reflectlite.Value).IsNil", "internal/reflectlite.TypeOf", "(internal/reflectlite.Value).Elem", "(internal/reflectlite.Value).Set"], unfollowed := true, recurses := true, named := ["loop.example/g00338/impl.errManyLocks", "errors.errorType"], ifaces := true, plainKeys := false, apart := false, laid := [("errors.errorType", laid_errors_errorType), ("loop.example/g00338/impl.errManyLocks", laid_loop_example_g00338_impl_errManyLocks)] }
def FnExactConfigInSaid : Prop := fnExactConfigInRow.holds Tryz.pinned (OpenSpec.ofChange fnExactConfigInSpec)

/-- ITS FALSE NEIGHBOUR: 'it returns false'. Refute it at one input. -/
def fnExactConfigInWrong : ChangeSpec := { name := "fnExactConfigIn", vars := ["loop.example/g00338/impl.errManyLocks"], fn := fun _ => fun
  | [d1, d2, g1] => { results := [.lit (.bool false)], args := [d1, d2], vars := [g1] }
  | _ => none }
def FnExactConfigInWrongFalsely : Prop := fnExactConfigInRow.holds Tryz.pinned (OpenSpec.ofChange fnExactConfigInWrong)

/- THE SECOND FORM. 'bulk': how many values and letters a reading holds, each counted each time it is reached (what is shared counts as often as it is met; a slice's spare places count too). A statement '..UptoSaid' is the law's where the arguments, and the package variables that the reading takes, are together of bulk at most 1048576: NARROWER than '..Said'. Prove '..Said' where nothing that the law and all that it calls make is longer than what came in: it says more and counts as full. Else prove '..UptoSaid'. A law counts once. -/
mutual
def uptoBulk {H : Type} : DataW H → Nat
  | .lit (.string bytes) => bytes.length + 1
  | .lit _ => 1
  | .nil => 1
  | .ptr d => uptoBulk d + 1
  | .slice elems spare => uptoBulkAll elems + uptoBulkAll spare + 1
  | .agg parts => uptoBulkAll parts + 1
  | .iface _ d => uptoBulk d + 1
  | .map entries => uptoBulkEntries entries + 1
  | .held _ => 1
def uptoBulkAll {H : Type} : List (DataW H) → Nat
  | [] => 0
  | d :: r => uptoBulk d + uptoBulkAll r
def uptoBulkEntries {H : Type} : List (Lit × DataW H) → Nat
  | [] => 0
  | x :: r => uptoBulkEntry x + uptoBulkEntries r
def uptoBulkEntry {H : Type} : Lit × DataW H → Nat
  | (.string bytes, d) => bytes.length + uptoBulk d + 1
  | (_, d) => uptoBulk d + 1
 end
def uptoSmall : (H : Type) → List (DataW H) → Bool := fun _ ds => decide (uptoBulkAll ds ≤ 1048576)
def OpenSpec.upto (s : _root_.Go.ChangeSpec) : _root_.Go.OpenSpec := { _root_.Go.OpenSpec.ofChange s with cond := some uptoSmall }

/-- 'laws.FnExactClusterFault', WHERE WHAT IT READS IS OF BULK AT MOST 1048576: true; the input reads as it did. -/
def fnExactClusterFaultUptoRow : OpenClaim := { program := "ytdghpccmdnnenaagreatdoor", sum := "a1cd11e9cdc7085fe85e6ca8d535efe3698d8bcea21937d0b8c94124ba3a3e7b", func := "loop.example/g00338/laws.FnExactClusterFault", spec := "fnExactClusterFault", inPlace := ["slices.overlaps[loop.example/g00338/impl.Lock]", "internal/reflectlite.ValueOf", "(internal/reflectlite.Value).Type", "(internal/reflectlite.Value).IsNil", "internal/reflectlite.TypeOf", "(internal/reflectlite.Value).Elem", "(internal/reflectlite.Value).Set"], unfollowed := true, recurses := true, named := ["loop.example/g00338/impl.errManyLocks", "errors.errorType"], ifaces := true, plainKeys := false, apart := false, laid := [("errors.errorType", laid_errors_errorType), ("loop.example/g00338/impl.errManyLocks", laid_loop_example_g00338_impl_errManyLocks)], narrowed := true }
def FnExactClusterFaultUptoSaid : Prop := fnExactClusterFaultUptoRow.holds Tryz.pinned (OpenSpec.upto fnExactClusterFaultSpec)

/-- 'laws.FnExactSignedOf', WHERE WHAT IT READS IS OF BULK AT MOST 1048576: true; the input reads as it did. -/
def fnExactSignedOfUptoRow : OpenClaim := { program := "ytdghpccmdnnenaagreatdoor", sum := "a1cd11e9cdc7085fe85e6ca8d535efe3698d8bcea21937d0b8c94124ba3a3e7b", func := "loop.example/g00338/laws.FnExactSignedOf", spec := "fnExactSignedOf", inPlace := ["slices.overlaps[loop.example/g00338/impl.Lock]", "internal/reflectlite.ValueOf", "(internal/reflectlite.Value).Type", "(internal/reflectlite.Value).IsNil", "internal/reflectlite.TypeOf", "(internal/reflectlite.Value).Elem", "(internal/reflectlite.Value).Set"], unfollowed := true, recurses := true, named := ["loop.example/g00338/impl.errManyLocks", "errors.errorType"], ifaces := true, plainKeys := false, apart := false, laid := [("errors.errorType", laid_errors_errorType), ("loop.example/g00338/impl.errManyLocks", laid_loop_example_g00338_impl_errManyLocks)], narrowed := true }
def FnExactSignedOfUptoSaid : Prop := fnExactSignedOfUptoRow.holds Tryz.pinned (OpenSpec.upto fnExactSignedOfSpec)

/-- 'laws.FnExactStoodBy', WHERE WHAT IT READS IS OF BULK AT MOST 1048576: true; the input reads as it did. -/
def fnExactStoodByUptoRow : OpenClaim := { program := "ytdghpccmdnnenaagreatdoor", sum := "a1cd11e9cdc7085fe85e6ca8d535efe3698d8bcea21937d0b8c94124ba3a3e7b", func := "loop.example/g00338/laws.FnExactStoodBy", spec := "fnExactStoodBy", inPlace := ["slices.overlaps[loop.example/g00338/impl.Lock]", "internal/reflectlite.ValueOf", "(internal/reflectlite.Value).Type", "(internal/reflectlite.Value).IsNil", "internal/reflectlite.TypeOf", "(internal/reflectlite.Value).Elem", "(internal/reflectlite.Value).Set"], unfollowed := true, recurses := true, named := ["loop.example/g00338/impl.errManyLocks", "errors.errorType"], ifaces := true, plainKeys := false, apart := false, laid := [("errors.errorType", laid_errors_errorType), ("loop.example/g00338/impl.errManyLocks", laid_loop_example_g00338_impl_errManyLocks)], narrowed := true }
def FnExactStoodByUptoSaid : Prop := fnExactStoodByUptoRow.holds Tryz.pinned (OpenSpec.upto fnExactStoodBySpec)

/-- 'laws.FnExactSodRight', WHERE WHAT IT READS IS OF BULK AT MOST 1048576: true; the input reads as it did. -/
def fnExactSodRightUptoRow : OpenClaim := { program := "ytdghpccmdnnenaagreatdoor", sum := "a1cd11e9cdc7085fe85e6ca8d535efe3698d8bcea21937d0b8c94124ba3a3e7b", func := "loop.example/g00338/laws.FnExactSodRight", spec := "fnExactSodRight", inPlace := ["slices.overlaps[loop.example/g00338/impl.Lock]", "internal/reflectlite.ValueOf", "(internal/reflectlite.Value).Type", "(internal/reflectlite.Value).IsNil", "internal/reflectlite.TypeOf", "(internal/reflectlite.Value).Elem", "(internal/reflectlite.Value).Set"], unfollowed := true, recurses := true, named := ["loop.example/g00338/impl.errManyLocks", "errors.errorType"], ifaces := true, plainKeys := false, apart := false, laid := [("errors.errorType", laid_errors_errorType), ("loop.example/g00338/impl.errManyLocks", laid_loop_example_g00338_impl_errManyLocks)], narrowed := true }
def FnExactSodRightUptoSaid : Prop := fnExactSodRightUptoRow.holds Tryz.pinned (OpenSpec.upto fnExactSodRightSpec)

/-- 'laws.FnExactForkRight', WHERE WHAT IT READS IS OF BULK AT MOST 1048576: true; the input reads as it did. -/
def fnExactForkRightUptoRow : OpenClaim := { program := "ytdghpccmdnnenaagreatdoor", sum := "a1cd11e9cdc7085fe85e6ca8d535efe3698d8bcea21937d0b8c94124ba3a3e7b", func := "loop.example/g00338/laws.FnExactForkRight", spec := "fnExactForkRight", inPlace := ["slices.overlaps[loop.example/g00338/impl.Lock]", "internal/reflectlite.ValueOf", "(internal/reflectlite.Value).Type", "(internal/reflectlite.Value).IsNil", "internal/reflectlite.TypeOf", "(internal/reflectlite.Value).Elem", "(internal/reflectlite.Value).Set"], unfollowed := true, recurses := true, named := ["loop.example/g00338/impl.errManyLocks", "errors.errorType"], ifaces := true, plainKeys := false, apart := false, laid := [("errors.errorType", laid_errors_errorType), ("loop.example/g00338/impl.errManyLocks", laid_loop_example_g00338_impl_errManyLocks)], narrowed := true }
def FnExactForkRightUptoSaid : Prop := fnExactForkRightUptoRow.holds Tryz.pinned (OpenSpec.upto fnExactForkRightSpec)

/-- 'laws.FnExactPolicyRight', WHERE WHAT IT READS IS OF BULK AT MOST 1048576: true; the input reads as it did. -/
def fnExactPolicyRightUptoRow : OpenClaim := { program := "ytdghpccmdnnenaagreatdoor", sum := "a1cd11e9cdc7085fe85e6ca8d535efe3698d8bcea21937d0b8c94124ba3a3e7b", func := "loop.example/g00338/laws.FnExactPolicyRight", spec := "fnExactPolicyRight", inPlace := ["slices.overlaps[loop.example/g00338/impl.Lock]", "internal/reflectlite.ValueOf", "(internal/reflectlite.Value).Type", "(internal/reflectlite.Value).IsNil", "internal/reflectlite.TypeOf", "(internal/reflectlite.Value).Elem", "(internal/reflectlite.Value).Set"], unfollowed := true, recurses := true, named := ["loop.example/g00338/impl.errManyLocks", "errors.errorType"], ifaces := true, plainKeys := false, apart := false, laid := [("errors.errorType", laid_errors_errorType), ("loop.example/g00338/impl.errManyLocks", laid_loop_example_g00338_impl_errManyLocks)], narrowed := true }
def FnExactPolicyRightUptoSaid : Prop := fnExactPolicyRightUptoRow.holds Tryz.pinned (OpenSpec.upto fnExactPolicyRightSpec)

/-- 'laws.FnExactStoodRight', WHERE WHAT IT READS IS OF BULK AT MOST 1048576: true; the input reads as it did. -/
def fnExactStoodRightUptoRow : OpenClaim := { program := "ytdghpccmdnnenaagreatdoor", sum := "a1cd11e9cdc7085fe85e6ca8d535efe3698d8bcea21937d0b8c94124ba3a3e7b", func := "loop.example/g00338/laws.FnExactStoodRight", spec := "fnExactStoodRight", inPlace := ["slices.overlaps[loop.example/g00338/impl.Lock]", "internal/reflectlite.ValueOf", "(internal/reflectlite.Value).Type", "(internal/reflectlite.Value).IsNil", "internal/reflectlite.TypeOf", "(internal/reflectlite.Value).Elem", "(internal/reflectlite.Value).Set"], unfollowed := true, recurses := true, named := ["loop.example/g00338/impl.errManyLocks", "errors.errorType"], ifaces := true, plainKeys := false, apart := false, laid := [("errors.errorType", laid_errors_errorType), ("loop.example/g00338/impl.errManyLocks", laid_loop_example_g00338_impl_errManyLocks)], narrowed := true }
def FnExactStoodRightUptoSaid : Prop := fnExactStoodRightUptoRow.holds Tryz.pinned (OpenSpec.upto fnExactStoodRightSpec)

/-- 'laws.FnExactConfigIn', WHERE WHAT IT READS IS OF BULK AT MOST 1048576: true; the input reads as it did. -/
def fnExactConfigInUptoRow : OpenClaim := { program := "ytdghpccmdnnenaagreatdoor", sum := "a1cd11e9cdc7085fe85e6ca8d535efe3698d8bcea21937d0b8c94124ba3a3e7b", func := "loop.example/g00338/laws.FnExactConfigIn", spec := "fnExactConfigIn", inPlace := ["slices.overlaps[loop.example/g00338/impl.Lock]", "internal/reflectlite.ValueOf", "(internal/reflectlite.Value).Type", "(internal/reflectlite.Value).IsNil", "internal/reflectlite.TypeOf", "(internal/reflectlite.Value).Elem", "(internal/reflectlite.Value).Set"], unfollowed := true, recurses := true, named := ["loop.example/g00338/impl.errManyLocks", "errors.errorType"], ifaces := true, plainKeys := false, apart := false, laid := [("errors.errorType", laid_errors_errorType), ("loop.example/g00338/impl.errManyLocks", laid_loop_example_g00338_impl_errManyLocks)], narrowed := true }
def FnExactConfigInUptoSaid : Prop := fnExactConfigInUptoRow.holds Tryz.pinned (OpenSpec.upto fnExactConfigInSpec)

end Rows
end Go.Proofs.YtdghpccmdnnenaaGreatDoor
