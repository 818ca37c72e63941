/-
  No cell of these rows narrows 'for every input' (looked for: loops, veiled, ifaces, maps, wideKeys, modest, calm, conditions, laid).
  DERIVED. THE GIVEN ROWS OF THIS SEAT. 7 by the template 'for every input the law returns true; each argument reads behind the call as it read before'; 0 by the template 'total and deterministic' (their statements: YtipmkdacnpkgjaaTotals.lean).
  GIVEN WITH THE SEED: the statements are not yours to turn. If you find one false, say at which input.
  Laid BY PROGRAM, IN A SANDBOX (cutbox-rows.mjs): the forced cells as the released guide's own fill.sh prints them over the translation 5bac6efa1b88e534… (all of the seat's roots in one cut). By AI agents, Wed Nov 11 2026. No macro, syntax, notation, axiom, sorry.
-/
import Derived.Test.YtipmkdacnpkgjaaChecked
import GoSem.Claim
import GoSem.ClaimJoined
import GoSem.ClaimMapViews
import Derived.JoinedTies
import Derived.KernelRfl
namespace Go.Proofs.Ytipmkdacnpkgjaa
/- THE CELL 'sum', in the pinned program and in every row, IS THE sha256 OF THE DUMP (.gsa) THAT YtipmkdacnpkgjaaProg.lean LOADS. Nothing in Lean hashes anything: it is a label: what it is worth is what the hold of that sum in a sandbox is worth. -/
noncomputable def Try.pinned : Pinned := { name := "ytipmkdacnpkgjaa", sum := "5bac6efa1b88e534d66fa6963cbae92d6d783ebe6cb1ef6434e8d5ffb9836727", checked := Try.checked }
namespace Rows
def none {H : Type} : Left H := { results := [], args := [] }

/-- 'laws.FnGrants': WHATEVER THE INPUT: true; the input reads as it did. -/
def fnGrantsSpec : ChangeSpec := { name := "fnGrants", fn := fun _ => fun
  | [d] => { results := [.lit (.bool true)], args := [d] }
  | _ => none }
def fnGrantsRow : OpenClaim := { program := "ytipmkdacnpkgjaa", sum := "5bac6efa1b88e534d66fa6963cbae92d6d783ebe6cb1ef6434e8d5ffb9836727", func := "loop.example/g00338/laws.FnGrants", spec := "fnGrants", inPlace := ["maps.clone"], unfollowed := true, recurses := true, plainKeys := false, apart := false }
def FnGrantsSaid : Prop := fnGrantsRow.holds Try.pinned (OpenSpec.ofChange fnGrantsSpec)

/-- ITS FALSE NEIGHBOUR: 'it returns false'. Refute it at one input. -/
def fnGrantsWrong : ChangeSpec := { name := "fnGrants", fn := fun _ => fun
  | [d] => { results := [.lit (.bool false)], args := [d] }
  | _ => none }
def FnGrantsWrongFalsely : Prop := fnGrantsRow.holds Try.pinned (OpenSpec.ofChange fnGrantsWrong)

/-- 'laws.FnExactMembersOf': WHATEVER THE INPUT: true; the input reads as it did. -/
def fnExactMembersOfSpec : ChangeSpec := { name := "fnExactMembersOf", fn := fun _ => fun
  | [d1, d2] => { results := [.lit (.bool true)], args := [d1, d2] }
  | _ => none }
def fnExactMembersOfRow : OpenClaim := { program := "ytipmkdacnpkgjaa", sum := "5bac6efa1b88e534d66fa6963cbae92d6d783ebe6cb1ef6434e8d5ffb9836727", func := "loop.example/g00338/laws.FnExactMembersOf", spec := "fnExactMembersOf", unfollowed := true, recurses := true, plainKeys := false, apart := false }
def FnExactMembersOfSaid : Prop := fnExactMembersOfRow.holds Try.pinned (OpenSpec.ofChange fnExactMembersOfSpec)

/-- ITS FALSE NEIGHBOUR: 'it returns false'. Refute it at one input. -/
def fnExactMembersOfWrong : ChangeSpec := { name := "fnExactMembersOf", fn := fun _ => fun
  | [d1, d2] => { results := [.lit (.bool false)], args := [d1, d2] }
  | _ => none }
def FnExactMembersOfWrongFalsely : Prop := fnExactMembersOfRow.holds Try.pinned (OpenSpec.ofChange fnExactMembersOfWrong)

/-- 'laws.FnExactGrantsOf': WHATEVER THE INPUT: true; the input reads as it did. -/
def fnExactGrantsOfSpec : ChangeSpec := { name := "fnExactGrantsOf", fn := fun _ => fun
  | [d] => { results := [.lit (.bool true)], args := [d] }
  | _ => none }
def fnExactGrantsOfRow : OpenClaim := { program := "ytipmkdacnpkgjaa", sum := "5bac6efa1b88e534d66fa6963cbae92d6d783ebe6cb1ef6434e8d5ffb9836727", func := "loop.example/g00338/laws.FnExactGrantsOf", spec := "fnExactGrantsOf", unfollowed := true, recurses := true, plainKeys := false, apart := false }
def FnExactGrantsOfSaid : Prop := fnExactGrantsOfRow.holds Try.pinned (OpenSpec.ofChange fnExactGrantsOfSpec)

/-- ITS FALSE NEIGHBOUR: 'it returns false'. Refute it at one input. -/
def fnExactGrantsOfWrong : ChangeSpec := { name := "fnExactGrantsOf", fn := fun _ => fun
  | [d] => { results := [.lit (.bool false)], args := [d] }
  | _ => none }
def FnExactGrantsOfWrongFalsely : Prop := fnExactGrantsOfRow.holds Try.pinned (OpenSpec.ofChange fnExactGrantsOfWrong)

/-- 'laws.FnExactStepGrants': WHATEVER THE INPUT: true; the input reads as it did. -/
def fnExactStepGrantsSpec : ChangeSpec := { name := "fnExactStepGrants", fn := fun _ => fun
  | [d1, d2] => { results := [.lit (.bool true)], args := [d1, d2] }
  | _ => none }
def fnExactStepGrantsRow : OpenClaim := { program := "ytipmkdacnpkgjaa", sum := "5bac6efa1b88e534d66fa6963cbae92d6d783ebe6cb1ef6434e8d5ffb9836727", func := "loop.example/g00338/laws.FnExactStepGrants", spec := "fnExactStepGrants", inPlace := ["maps.clone"], unfollowed := true, recurses := true, plainKeys := false, apart := false }
def FnExactStepGrantsSaid : Prop := fnExactStepGrantsRow.holds Try.pinned (OpenSpec.ofChange fnExactStepGrantsSpec)

/-- ITS FALSE NEIGHBOUR: 'it returns false'. Refute it at one input. -/
def fnExactStepGrantsWrong : ChangeSpec := { name := "fnExactStepGrants", fn := fun _ => fun
  | [d1, d2] => { results := [.lit (.bool false)], args := [d1, d2] }
  | _ => none }
def FnExactStepGrantsWrongFalsely : Prop := fnExactStepGrantsRow.holds Try.pinned (OpenSpec.ofChange fnExactStepGrantsWrong)

/-- 'laws.FnExactGrantFault': WHATEVER THE INPUT: true; the input reads as it did. -/
def fnExactGrantFaultSpec : ChangeSpec := { name := "fnExactGrantFault", fn := fun _ => fun
  | [d] => { results := [.lit (.bool true)], args := [d] }
  | _ => none }
def fnExactGrantFaultRow : OpenClaim := { program := "ytipmkdacnpkgjaa", sum := "5bac6efa1b88e534d66fa6963cbae92d6d783ebe6cb1ef6434e8d5ffb9836727", func := "loop.example/g00338/laws.FnExactGrantFault", spec := "fnExactGrantFault", plainKeys := false, apart := false }
def FnExactGrantFaultSaid : Prop := fnExactGrantFaultRow.holds Try.pinned (OpenSpec.ofChange fnExactGrantFaultSpec)

/-- ITS FALSE NEIGHBOUR: 'it returns false'. Refute it at one input. -/
def fnExactGrantFaultWrong : ChangeSpec := { name := "fnExactGrantFault", fn := fun _ => fun
  | [d] => { results := [.lit (.bool false)], args := [d] }
  | _ => none }
def FnExactGrantFaultWrongFalsely : Prop := fnExactGrantFaultRow.holds Try.pinned (OpenSpec.ofChange fnExactGrantFaultWrong)

/-- 'laws.FnExactHasRole': WHATEVER THE INPUT: true; the input reads as it did. -/
def fnExactHasRoleSpec : ChangeSpec := { name := "fnExactHasRole", fn := fun _ => fun
  | [d1, d2, d3] => { results := [.lit (.bool true)], args := [d1, d2, d3] }
  | _ => none }
def fnExactHasRoleRow : OpenClaim := { program := "ytipmkdacnpkgjaa", sum := "5bac6efa1b88e534d66fa6963cbae92d6d783ebe6cb1ef6434e8d5ffb9836727", func := "loop.example/g00338/laws.FnExactHasRole", spec := "fnExactHasRole", unfollowed := true, recurses := true, plainKeys := false, apart := false }
def FnExactHasRoleSaid : Prop := fnExactHasRoleRow.holds Try.pinned (OpenSpec.ofChange fnExactHasRoleSpec)

/-- ITS FALSE NEIGHBOUR: 'it returns false'. Refute it at one input. -/
def fnExactHasRoleWrong : ChangeSpec := { name := "fnExactHasRole", fn := fun _ => fun
  | [d1, d2, d3] => { results := [.lit (.bool false)], args := [d1, d2, d3] }
  | _ => none }
def FnExactHasRoleWrongFalsely : Prop := fnExactHasRoleRow.holds Try.pinned (OpenSpec.ofChange fnExactHasRoleWrong)

/-- 'laws.FnExactProofOf': WHATEVER THE INPUT: true; the input reads as it did. -/
def fnExactProofOfSpec : ChangeSpec := { name := "fnExactProofOf", fn := fun _ => fun
  | [d1, d2, d3] => { results := [.lit (.bool true)], args := [d1, d2, d3] }
  | _ => none }
def fnExactProofOfRow : OpenClaim := { program := "ytipmkdacnpkgjaa", sum := "5bac6efa1b88e534d66fa6963cbae92d6d783ebe6cb1ef6434e8d5ffb9836727", func := "loop.example/g00338/laws.FnExactProofOf", spec := "fnExactProofOf", inPlace := ["maps.clone"], unfollowed := true, recurses := true, plainKeys := false, apart := false }
def FnExactProofOfSaid : Prop := fnExactProofOfRow.holds Try.pinned (OpenSpec.ofChange fnExactProofOfSpec)

/-- ITS FALSE NEIGHBOUR: 'it returns false'. Refute it at one input. -/
def fnExactProofOfWrong : ChangeSpec := { name := "fnExactProofOf", fn := fun _ => fun
  | [d1, d2, d3] => { results := [.lit (.bool false)], args := [d1, d2, d3] }
  | _ => none }
def FnExactProofOfWrongFalsely : Prop := fnExactProofOfRow.holds Try.pinned (OpenSpec.ofChange fnExactProofOfWrong)

/- THE SECOND FORM. 'bulk': how many values and letters a reading holds, each counted each time it is reached (what is shared counts as often as it is met; a slice's spare places count too). A statement '..UptoSaid' is the law's where the arguments, and the package variables that the reading takes, are together of bulk at most 1048576: NARROWER than '..Said'. Prove '..Said' where nothing that the law and all that it calls make is longer than what came in: it says more and counts as full. Else prove '..UptoSaid'. A law counts once. -/
mutual
def uptoBulk {H : Type} : DataW H → Nat
  | .lit (.string bytes) => bytes.length + 1
  | .lit _ => 1
  | .nil => 1
  | .ptr d => uptoBulk d + 1
  | .slice elems spare => uptoBulkAll elems + uptoBulkAll spare + 1
  | .agg parts => uptoBulkAll parts + 1
  | .iface _ d => uptoBulk d + 1
  | .map entries => uptoBulkEntries entries + 1
  | .held _ => 1
def uptoBulkAll {H : Type} : List (DataW H) → Nat
  | [] => 0
  | d :: r => uptoBulk d + uptoBulkAll r
def uptoBulkEntries {H : Type} : List (Lit × DataW H) → Nat
  | [] => 0
  | x :: r => uptoBulkEntry x + uptoBulkEntries r
def uptoBulkEntry {H : Type} : Lit × DataW H → Nat
  | (.string bytes, d) => bytes.length + uptoBulk d + 1
  | (_, d) => uptoBulk d + 1
 end
def uptoSmall : (H : Type) → List (DataW H) → Bool := fun _ ds => decide (uptoBulkAll ds ≤ 1048576)
def OpenSpec.upto (s : _root_.Go.ChangeSpec) : _root_.Go.OpenSpec := { _root_.Go.OpenSpec.ofChange s with cond := some uptoSmall }

/-- 'laws.FnGrants', WHERE WHAT IT READS IS OF BULK AT MOST 1048576: true; the input reads as it did. -/
def fnGrantsUptoRow : OpenClaim := { program := "ytipmkdacnpkgjaa", sum := "5bac6efa1b88e534d66fa6963cbae92d6d783ebe6cb1ef6434e8d5ffb9836727", func := "loop.example/g00338/laws.FnGrants", spec := "fnGrants", inPlace := ["maps.clone"], unfollowed := true, recurses := true, plainKeys := false, apart := false, narrowed := true }
def FnGrantsUptoSaid : Prop := fnGrantsUptoRow.holds Try.pinned (OpenSpec.upto fnGrantsSpec)

/-- 'laws.FnExactMembersOf', WHERE WHAT IT READS IS OF BULK AT MOST 1048576: true; the input reads as it did. -/
def fnExactMembersOfUptoRow : OpenClaim := { program := "ytipmkdacnpkgjaa", sum := "5bac6efa1b88e534d66fa6963cbae92d6d783ebe6cb1ef6434e8d5ffb9836727", func := "loop.example/g00338/laws.FnExactMembersOf", spec := "fnExactMembersOf", unfollowed := true, recurses := true, plainKeys := false, apart := false, narrowed := true }
def FnExactMembersOfUptoSaid : Prop := fnExactMembersOfUptoRow.holds Try.pinned (OpenSpec.upto fnExactMembersOfSpec)

/-- 'laws.FnExactGrantsOf', WHERE WHAT IT READS IS OF BULK AT MOST 1048576: true; the input reads as it did. -/
def fnExactGrantsOfUptoRow : OpenClaim := { program := "ytipmkdacnpkgjaa", sum := "5bac6efa1b88e534d66fa6963cbae92d6d783ebe6cb1ef6434e8d5ffb9836727", func := "loop.example/g00338/laws.FnExactGrantsOf", spec := "fnExactGrantsOf", unfollowed := true, recurses := true, plainKeys := false, apart := false, narrowed := true }
def FnExactGrantsOfUptoSaid : Prop := fnExactGrantsOfUptoRow.holds Try.pinned (OpenSpec.upto fnExactGrantsOfSpec)

/-- 'laws.FnExactStepGrants', WHERE WHAT IT READS IS OF BULK AT MOST 1048576: true; the input reads as it did. -/
def fnExactStepGrantsUptoRow : OpenClaim := { program := "ytipmkdacnpkgjaa", sum := "5bac6efa1b88e534d66fa6963cbae92d6d783ebe6cb1ef6434e8d5ffb9836727", func := "loop.example/g00338/laws.FnExactStepGrants", spec := "fnExactStepGrants", inPlace := ["maps.clone"], unfollowed := true, recurses := true, plainKeys := false, apart := false, narrowed := true }
def FnExactStepGrantsUptoSaid : Prop := fnExactStepGrantsUptoRow.holds Try.pinned (OpenSpec.upto fnExactStepGrantsSpec)

/-- 'laws.FnExactGrantFault', WHERE WHAT IT READS IS OF BULK AT MOST 1048576: true; the input reads as it did. -/
def fnExactGrantFaultUptoRow : OpenClaim := { program := "ytipmkdacnpkgjaa", sum := "5bac6efa1b88e534d66fa6963cbae92d6d783ebe6cb1ef6434e8d5ffb9836727", func := "loop.example/g00338/laws.FnExactGrantFault", spec := "fnExactGrantFault", plainKeys := false, apart := false, narrowed := true }
def FnExactGrantFaultUptoSaid : Prop := fnExactGrantFaultUptoRow.holds Try.pinned (OpenSpec.upto fnExactGrantFaultSpec)

/-- 'laws.FnExactHasRole', WHERE WHAT IT READS IS OF BULK AT MOST 1048576: true; the input reads as it did. -/
def fnExactHasRoleUptoRow : OpenClaim := { program := "ytipmkdacnpkgjaa", sum := "5bac6efa1b88e534d66fa6963cbae92d6d783ebe6cb1ef6434e8d5ffb9836727", func := "loop.example/g00338/laws.FnExactHasRole", spec := "fnExactHasRole", unfollowed := true, recurses := true, plainKeys := false, apart := false, narrowed := true }
def FnExactHasRoleUptoSaid : Prop := fnExactHasRoleUptoRow.holds Try.pinned (OpenSpec.upto fnExactHasRoleSpec)

/-- 'laws.FnExactProofOf', WHERE WHAT IT READS IS OF BULK AT MOST 1048576: true; the input reads as it did. -/
def fnExactProofOfUptoRow : OpenClaim := { program := "ytipmkdacnpkgjaa", sum := "5bac6efa1b88e534d66fa6963cbae92d6d783ebe6cb1ef6434e8d5ffb9836727", func := "loop.example/g00338/laws.FnExactProofOf", spec := "fnExactProofOf", inPlace := ["maps.clone"], unfollowed := true, recurses := true, plainKeys := false, apart := false, narrowed := true }
def FnExactProofOfUptoSaid : Prop := fnExactProofOfUptoRow.holds Try.pinned (OpenSpec.upto fnExactProofOfSpec)

end Rows
end Go.Proofs.Ytipmkdacnpkgjaa
