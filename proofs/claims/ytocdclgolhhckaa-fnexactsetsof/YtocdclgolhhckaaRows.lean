/-
  No cell of these rows narrows 'for every input' (looked for: loops, veiled, ifaces, maps, wideKeys, modest, calm, conditions, laid).
  DERIVED. THE GIVEN ROWS OF THIS SEAT. 9 by the template 'for every input the law returns true; each argument reads behind the call as it read before'; 0 by the template 'total and deterministic' (their statements: YtocdclgolhhckaaTotals.lean).
  GIVEN WITH THE SEED: the statements are not yours to turn. If you find one false, say at which input.
  Laid BY PROGRAM, IN A SANDBOX (cutbox-rows.mjs): the forced cells as the released guide's own fill.sh prints them over the translation 219bbbf31b35406a… (all of the seat's roots in one cut). By AI agents, Wed Nov 11 2026. No macro, syntax, notation, axiom, sorry.
-/
import Derived.Test.YtocdclgolhhckaaChecked
import GoSem.Claim
import GoSem.ClaimJoined
import GoSem.ClaimMapViews
import Derived.JoinedTies
import Derived.KernelRfl
namespace Go.Proofs.Ytocdclgolhhckaa
/- THE CELL 'sum', in the pinned program and in every row, IS THE sha256 OF THE DUMP (.gsa) THAT YtocdclgolhhckaaProg.lean LOADS. Nothing in Lean hashes anything: it is a label: what it is worth is what the hold of that sum in a sandbox is worth. -/
noncomputable def Try.pinned : Pinned := { name := "ytocdclgolhhckaa", sum := "219bbbf31b35406ad7a2463423f1e1292a57cd96d5611c5bc2ba8c12faf9a91e", checked := Try.checked }
namespace Rows
def none {H : Type} : Left H := { results := [], args := [] }

/-- 'laws.FnExactMembersOf': WHATEVER THE INPUT: true; the input reads as it did. -/
def fnExactMembersOfSpec : ChangeSpec := { name := "fnExactMembersOf", fn := fun _ => fun
  | [d1, d2] => { results := [.lit (.bool true)], args := [d1, d2] }
  | _ => none }
def fnExactMembersOfRow : OpenClaim := { program := "ytocdclgolhhckaa", sum := "219bbbf31b35406ad7a2463423f1e1292a57cd96d5611c5bc2ba8c12faf9a91e", func := "loop.example/g00338/laws.FnExactMembersOf", spec := "fnExactMembersOf", unfollowed := true, recurses := true, plainKeys := false, apart := false }
def FnExactMembersOfSaid : Prop := fnExactMembersOfRow.holds Try.pinned (OpenSpec.ofChange fnExactMembersOfSpec)

/-- ITS FALSE NEIGHBOUR: 'it returns false'. Refute it at one input. -/
def fnExactMembersOfWrong : ChangeSpec := { name := "fnExactMembersOf", fn := fun _ => fun
  | [d1, d2] => { results := [.lit (.bool false)], args := [d1, d2] }
  | _ => none }
def FnExactMembersOfWrongFalsely : Prop := fnExactMembersOfRow.holds Try.pinned (OpenSpec.ofChange fnExactMembersOfWrong)

/-- 'laws.FnExactGrantsOf': WHATEVER THE INPUT: true; the input reads as it did. -/
def fnExactGrantsOfSpec : ChangeSpec := { name := "fnExactGrantsOf", fn := fun _ => fun
  | [d] => { results := [.lit (.bool true)], args := [d] }
  | _ => none }
def fnExactGrantsOfRow : OpenClaim := { program := "ytocdclgolhhckaa", sum := "219bbbf31b35406ad7a2463423f1e1292a57cd96d5611c5bc2ba8c12faf9a91e", func := "loop.example/g00338/laws.FnExactGrantsOf", spec := "fnExactGrantsOf", unfollowed := true, recurses := true, plainKeys := false, apart := false }
def FnExactGrantsOfSaid : Prop := fnExactGrantsOfRow.holds Try.pinned (OpenSpec.ofChange fnExactGrantsOfSpec)

/-- ITS FALSE NEIGHBOUR: 'it returns false'. Refute it at one input. -/
def fnExactGrantsOfWrong : ChangeSpec := { name := "fnExactGrantsOf", fn := fun _ => fun
  | [d] => { results := [.lit (.bool false)], args := [d] }
  | _ => none }
def FnExactGrantsOfWrongFalsely : Prop := fnExactGrantsOfRow.holds Try.pinned (OpenSpec.ofChange fnExactGrantsOfWrong)

/-- 'laws.FnExactStepGrants': WHATEVER THE INPUT: true; the input reads as it did. -/
def fnExactStepGrantsSpec : ChangeSpec := { name := "fnExactStepGrants", fn := fun _ => fun
  | [d1, d2] => { results := [.lit (.bool true)], args := [d1, d2] }
  | _ => none }
def fnExactStepGrantsRow : OpenClaim := { program := "ytocdclgolhhckaa", sum := "219bbbf31b35406ad7a2463423f1e1292a57cd96d5611c5bc2ba8c12faf9a91e", func := "loop.example/g00338/laws.FnExactStepGrants", spec := "fnExactStepGrants", inPlace := ["maps.clone"], unfollowed := true, recurses := true, plainKeys := false, apart := false }
def FnExactStepGrantsSaid : Prop := fnExactStepGrantsRow.holds Try.pinned (OpenSpec.ofChange fnExactStepGrantsSpec)

/-- ITS FALSE NEIGHBOUR: 'it returns false'. Refute it at one input. -/
def fnExactStepGrantsWrong : ChangeSpec := { name := "fnExactStepGrants", fn := fun _ => fun
  | [d1, d2] => { results := [.lit (.bool false)], args := [d1, d2] }
  | _ => none }
def FnExactStepGrantsWrongFalsely : Prop := fnExactStepGrantsRow.holds Try.pinned (OpenSpec.ofChange fnExactStepGrantsWrong)

/-- 'laws.FnExactHasRole': WHATEVER THE INPUT: true; the input reads as it did. -/
def fnExactHasRoleSpec : ChangeSpec := { name := "fnExactHasRole", fn := fun _ => fun
  | [d1, d2, d3] => { results := [.lit (.bool true)], args := [d1, d2, d3] }
  | _ => none }
def fnExactHasRoleRow : OpenClaim := { program := "ytocdclgolhhckaa", sum := "219bbbf31b35406ad7a2463423f1e1292a57cd96d5611c5bc2ba8c12faf9a91e", func := "loop.example/g00338/laws.FnExactHasRole", spec := "fnExactHasRole", unfollowed := true, recurses := true, plainKeys := false, apart := false }
def FnExactHasRoleSaid : Prop := fnExactHasRoleRow.holds Try.pinned (OpenSpec.ofChange fnExactHasRoleSpec)

/-- ITS FALSE NEIGHBOUR: 'it returns false'. Refute it at one input. -/
def fnExactHasRoleWrong : ChangeSpec := { name := "fnExactHasRole", fn := fun _ => fun
  | [d1, d2, d3] => { results := [.lit (.bool false)], args := [d1, d2, d3] }
  | _ => none }
def FnExactHasRoleWrongFalsely : Prop := fnExactHasRoleRow.holds Try.pinned (OpenSpec.ofChange fnExactHasRoleWrong)

/-- 'laws.FnExactProofOf': WHATEVER THE INPUT: true; the input reads as it did. -/
def fnExactProofOfSpec : ChangeSpec := { name := "fnExactProofOf", fn := fun _ => fun
  | [d1, d2, d3] => { results := [.lit (.bool true)], args := [d1, d2, d3] }
  | _ => none }
def fnExactProofOfRow : OpenClaim := { program := "ytocdclgolhhckaa", sum := "219bbbf31b35406ad7a2463423f1e1292a57cd96d5611c5bc2ba8c12faf9a91e", func := "loop.example/g00338/laws.FnExactProofOf", spec := "fnExactProofOf", inPlace := ["maps.clone"], unfollowed := true, recurses := true, plainKeys := false, apart := false }
def FnExactProofOfSaid : Prop := fnExactProofOfRow.holds Try.pinned (OpenSpec.ofChange fnExactProofOfSpec)

/-- ITS FALSE NEIGHBOUR: 'it returns false'. Refute it at one input. -/
def fnExactProofOfWrong : ChangeSpec := { name := "fnExactProofOf", fn := fun _ => fun
  | [d1, d2, d3] => { results := [.lit (.bool false)], args := [d1, d2, d3] }
  | _ => none }
def FnExactProofOfWrongFalsely : Prop := fnExactProofOfRow.holds Try.pinned (OpenSpec.ofChange fnExactProofOfWrong)

/-- 'laws.FnExactSetsOf': WHATEVER THE INPUT: true; the input reads as it did. -/
def fnExactSetsOfSpec : ChangeSpec := { name := "fnExactSetsOf", fn := fun _ => fun
  | [d1, d2] => { results := [.lit (.bool true)], args := [d1, d2] }
  | _ => none }
def fnExactSetsOfRow : OpenClaim := { program := "ytocdclgolhhckaa", sum := "219bbbf31b35406ad7a2463423f1e1292a57cd96d5611c5bc2ba8c12faf9a91e", func := "loop.example/g00338/laws.FnExactSetsOf", spec := "fnExactSetsOf", unfollowed := true, recurses := true, plainKeys := false, apart := false }
def FnExactSetsOfSaid : Prop := fnExactSetsOfRow.holds Try.pinned (OpenSpec.ofChange fnExactSetsOfSpec)

/-- ITS FALSE NEIGHBOUR: 'it returns false'. Refute it at one input. -/
def fnExactSetsOfWrong : ChangeSpec := { name := "fnExactSetsOf", fn := fun _ => fun
  | [d1, d2] => { results := [.lit (.bool false)], args := [d1, d2] }
  | _ => none }
def FnExactSetsOfWrongFalsely : Prop := fnExactSetsOfRow.holds Try.pinned (OpenSpec.ofChange fnExactSetsOfWrong)

/-- 'laws.FnExactAdmits': WHATEVER THE INPUT: true; the input reads as it did. -/
def fnExactAdmitsSpec : ChangeSpec := { name := "fnExactAdmits", fn := fun _ => fun
  | [d1, d2, d3] => { results := [.lit (.bool true)], args := [d1, d2, d3] }
  | _ => none }
def fnExactAdmitsRow : OpenClaim := { program := "ytocdclgolhhckaa", sum := "219bbbf31b35406ad7a2463423f1e1292a57cd96d5611c5bc2ba8c12faf9a91e", func := "loop.example/g00338/laws.FnExactAdmits", spec := "fnExactAdmits", unfollowed := true, recurses := true, plainKeys := false, apart := false }
def FnExactAdmitsSaid : Prop := fnExactAdmitsRow.holds Try.pinned (OpenSpec.ofChange fnExactAdmitsSpec)

/-- ITS FALSE NEIGHBOUR: 'it returns false'. Refute it at one input. -/
def fnExactAdmitsWrong : ChangeSpec := { name := "fnExactAdmits", fn := fun _ => fun
  | [d1, d2, d3] => { results := [.lit (.bool false)], args := [d1, d2, d3] }
  | _ => none }
def FnExactAdmitsWrongFalsely : Prop := fnExactAdmitsRow.holds Try.pinned (OpenSpec.ofChange fnExactAdmitsWrong)

/-- 'laws.FnExactLeastOf': WHATEVER THE INPUT: true; the input reads as it did. -/
def fnExactLeastOfSpec : ChangeSpec := { name := "fnExactLeastOf", fn := fun _ => fun
  | [d1, d2] => { results := [.lit (.bool true)], args := [d1, d2] }
  | _ => none }
def fnExactLeastOfRow : OpenClaim := { program := "ytocdclgolhhckaa", sum := "219bbbf31b35406ad7a2463423f1e1292a57cd96d5611c5bc2ba8c12faf9a91e", func := "loop.example/g00338/laws.FnExactLeastOf", spec := "fnExactLeastOf", unfollowed := true, recurses := true, plainKeys := false, apart := false }
def FnExactLeastOfSaid : Prop := fnExactLeastOfRow.holds Try.pinned (OpenSpec.ofChange fnExactLeastOfSpec)

/-- ITS FALSE NEIGHBOUR: 'it returns false'. Refute it at one input. -/
def fnExactLeastOfWrong : ChangeSpec := { name := "fnExactLeastOf", fn := fun _ => fun
  | [d1, d2] => { results := [.lit (.bool false)], args := [d1, d2] }
  | _ => none }
def FnExactLeastOfWrongFalsely : Prop := fnExactLeastOfRow.holds Try.pinned (OpenSpec.ofChange fnExactLeastOfWrong)

/-- 'laws.FnExactWidens': WHATEVER THE INPUT: true; the input reads as it did. -/
def fnExactWidensSpec : ChangeSpec := { name := "fnExactWidens", fn := fun _ => fun
  | [d1, d2] => { results := [.lit (.bool true)], args := [d1, d2] }
  | _ => none }
def fnExactWidensRow : OpenClaim := { program := "ytocdclgolhhckaa", sum := "219bbbf31b35406ad7a2463423f1e1292a57cd96d5611c5bc2ba8c12faf9a91e", func := "loop.example/g00338/laws.FnExactWidens", spec := "fnExactWidens", unfollowed := true, recurses := true, plainKeys := false, apart := false }
def FnExactWidensSaid : Prop := fnExactWidensRow.holds Try.pinned (OpenSpec.ofChange fnExactWidensSpec)

/-- ITS FALSE NEIGHBOUR: 'it returns false'. Refute it at one input. -/
def fnExactWidensWrong : ChangeSpec := { name := "fnExactWidens", fn := fun _ => fun
  | [d1, d2] => { results := [.lit (.bool false)], args := [d1, d2] }
  | _ => none }
def FnExactWidensWrongFalsely : Prop := fnExactWidensRow.holds Try.pinned (OpenSpec.ofChange fnExactWidensWrong)

/- THE SECOND FORM. 'bulk': how many values and letters a reading holds, each counted each time it is reached (what is shared counts as often as it is met; a slice's spare places count too). A statement '..UptoSaid' is the law's where the arguments, and the package variables that the reading takes, are together of bulk at most 1048576: NARROWER than '..Said'. Prove '..Said' where nothing that the law and all that it calls make is longer than what came in: it says more and counts as full. Else prove '..UptoSaid'. A law counts once. -/
mutual
def uptoBulk {H : Type} : DataW H → Nat
  | .lit (.string bytes) => bytes.length + 1
  | .lit _ => 1
  | .nil => 1
  | .ptr d => uptoBulk d + 1
  | .slice elems spare => uptoBulkAll elems + uptoBulkAll spare + 1
  | .agg parts => uptoBulkAll parts + 1
  | .iface _ d => uptoBulk d + 1
  | .map entries => uptoBulkEntries entries + 1
  | .held _ => 1
def uptoBulkAll {H : Type} : List (DataW H) → Nat
  | [] => 0
  | d :: r => uptoBulk d + uptoBulkAll r
def uptoBulkEntries {H : Type} : List (Lit × DataW H) → Nat
  | [] => 0
  | x :: r => uptoBulkEntry x + uptoBulkEntries r
def uptoBulkEntry {H : Type} : Lit × DataW H → Nat
  | (.string bytes, d) => bytes.length + uptoBulk d + 1
  | (_, d) => uptoBulk d + 1
 end
def uptoSmall : (H : Type) → List (DataW H) → Bool := fun _ ds => decide (uptoBulkAll ds ≤ 1048576)
def OpenSpec.upto (s : _root_.Go.ChangeSpec) : _root_.Go.OpenSpec := { _root_.Go.OpenSpec.ofChange s with cond := some uptoSmall }

/-- 'laws.FnExactMembersOf', WHERE WHAT IT READS IS OF BULK AT MOST 1048576: true; the input reads as it did. -/
def fnExactMembersOfUptoRow : OpenClaim := { program := "ytocdclgolhhckaa", sum := "219bbbf31b35406ad7a2463423f1e1292a57cd96d5611c5bc2ba8c12faf9a91e", func := "loop.example/g00338/laws.FnExactMembersOf", spec := "fnExactMembersOf", unfollowed := true, recurses := true, plainKeys := false, apart := false, narrowed := true }
def FnExactMembersOfUptoSaid : Prop := fnExactMembersOfUptoRow.holds Try.pinned (OpenSpec.upto fnExactMembersOfSpec)

/-- 'laws.FnExactGrantsOf', WHERE WHAT IT READS IS OF BULK AT MOST 1048576: true; the input reads as it did. -/
def fnExactGrantsOfUptoRow : OpenClaim := { program := "ytocdclgolhhckaa", sum := "219bbbf31b35406ad7a2463423f1e1292a57cd96d5611c5bc2ba8c12faf9a91e", func := "loop.example/g00338/laws.FnExactGrantsOf", spec := "fnExactGrantsOf", unfollowed := true, recurses := true, plainKeys := false, apart := false, narrowed := true }
def FnExactGrantsOfUptoSaid : Prop := fnExactGrantsOfUptoRow.holds Try.pinned (OpenSpec.upto fnExactGrantsOfSpec)

/-- 'laws.FnExactStepGrants', WHERE WHAT IT READS IS OF BULK AT MOST 1048576: true; the input reads as it did. -/
def fnExactStepGrantsUptoRow : OpenClaim := { program := "ytocdclgolhhckaa", sum := "219bbbf31b35406ad7a2463423f1e1292a57cd96d5611c5bc2ba8c12faf9a91e", func := "loop.example/g00338/laws.FnExactStepGrants", spec := "fnExactStepGrants", inPlace := ["maps.clone"], unfollowed := true, recurses := true, plainKeys := false, apart := false, narrowed := true }
def FnExactStepGrantsUptoSaid : Prop := fnExactStepGrantsUptoRow.holds Try.pinned (OpenSpec.upto fnExactStepGrantsSpec)

/-- 'laws.FnExactHasRole', WHERE WHAT IT READS IS OF BULK AT MOST 1048576: true; the input reads as it did. -/
def fnExactHasRoleUptoRow : OpenClaim := { program := "ytocdclgolhhckaa", sum := "219bbbf31b35406ad7a2463423f1e1292a57cd96d5611c5bc2ba8c12faf9a91e", func := "loop.example/g00338/laws.FnExactHasRole", spec := "fnExactHasRole", unfollowed := true, recurses := true, plainKeys := false, apart := false, narrowed := true }
def FnExactHasRoleUptoSaid : Prop := fnExactHasRoleUptoRow.holds Try.pinned (OpenSpec.upto fnExactHasRoleSpec)

/-- 'laws.FnExactProofOf', WHERE WHAT IT READS IS OF BULK AT MOST 1048576: true; the input reads as it did. -/
def fnExactProofOfUptoRow : OpenClaim := { program := "ytocdclgolhhckaa", sum := "219bbbf31b35406ad7a2463423f1e1292a57cd96d5611c5bc2ba8c12faf9a91e", func := "loop.example/g00338/laws.FnExactProofOf", spec := "fnExactProofOf", inPlace := ["maps.clone"], unfollowed := true, recurses := true, plainKeys := false, apart := false, narrowed := true }
def FnExactProofOfUptoSaid : Prop := fnExactProofOfUptoRow.holds Try.pinned (OpenSpec.upto fnExactProofOfSpec)

/-- 'laws.FnExactSetsOf', WHERE WHAT IT READS IS OF BULK AT MOST 1048576: true; the input reads as it did. -/
def fnExactSetsOfUptoRow : OpenClaim := { program := "ytocdclgolhhckaa", sum := "219bbbf31b35406ad7a2463423f1e1292a57cd96d5611c5bc2ba8c12faf9a91e", func := "loop.example/g00338/laws.FnExactSetsOf", spec := "fnExactSetsOf", unfollowed := true, recurses := true, plainKeys := false, apart := false, narrowed := true }
def FnExactSetsOfUptoSaid : Prop := fnExactSetsOfUptoRow.holds Try.pinned (OpenSpec.upto fnExactSetsOfSpec)

/-- 'laws.FnExactAdmits', WHERE WHAT IT READS IS OF BULK AT MOST 1048576: true; the input reads as it did. -/
def fnExactAdmitsUptoRow : OpenClaim := { program := "ytocdclgolhhckaa", sum := "219bbbf31b35406ad7a2463423f1e1292a57cd96d5611c5bc2ba8c12faf9a91e", func := "loop.example/g00338/laws.FnExactAdmits", spec := "fnExactAdmits", unfollowed := true, recurses := true, plainKeys := false, apart := false, narrowed := true }
def FnExactAdmitsUptoSaid : Prop := fnExactAdmitsUptoRow.holds Try.pinned (OpenSpec.upto fnExactAdmitsSpec)

/-- 'laws.FnExactLeastOf', WHERE WHAT IT READS IS OF BULK AT MOST 1048576: true; the input reads as it did. -/
def fnExactLeastOfUptoRow : OpenClaim := { program := "ytocdclgolhhckaa", sum := "219bbbf31b35406ad7a2463423f1e1292a57cd96d5611c5bc2ba8c12faf9a91e", func := "loop.example/g00338/laws.FnExactLeastOf", spec := "fnExactLeastOf", unfollowed := true, recurses := true, plainKeys := false, apart := false, narrowed := true }
def FnExactLeastOfUptoSaid : Prop := fnExactLeastOfUptoRow.holds Try.pinned (OpenSpec.upto fnExactLeastOfSpec)

/-- 'laws.FnExactWidens', WHERE WHAT IT READS IS OF BULK AT MOST 1048576: true; the input reads as it did. -/
def fnExactWidensUptoRow : OpenClaim := { program := "ytocdclgolhhckaa", sum := "219bbbf31b35406ad7a2463423f1e1292a57cd96d5611c5bc2ba8c12faf9a91e", func := "loop.example/g00338/laws.FnExactWidens", spec := "fnExactWidens", unfollowed := true, recurses := true, plainKeys := false, apart := false, narrowed := true }
def FnExactWidensUptoSaid : Prop := fnExactWidensUptoRow.holds Try.pinned (OpenSpec.upto fnExactWidensSpec)

end Rows
end Go.Proofs.Ytocdclgolhhckaa
