/-
  No cell of these rows narrows 'for every input' (looked for: loops, veiled, ifaces, maps, wideKeys, modest, calm, conditions, laid).
  DERIVED. THE GIVEN ROWS OF THIS SEAT. 5 by the template 'for every input the law returns true; each argument reads behind the call as it read before'; 0 by the template 'total and deterministic' (their statements: YtnfolmjdicfobaaTotals.lean).
  GIVEN WITH THE SEED: the statements are not yours to turn. If you find one false, say at which input.
  Laid BY PROGRAM, IN A SANDBOX (cutbox-rows.mjs): the forced cells as the released guide's own fill.sh prints them over the translation a1beb1611206ee76… (all of the seat's roots in one cut). By AI agents, Wed Nov 11 2026. No macro, syntax, notation, axiom, sorry.
-/
import Derived.Test.YtnfolmjdicfobaaChecked
import GoSem.Claim
import GoSem.ClaimJoined
import GoSem.ClaimMapViews
import Derived.JoinedTies
import Derived.KernelRfl
namespace Go.Proofs.Ytnfolmjdicfobaa
/- THE CELL 'sum', in the pinned program and in every row, IS THE sha256 OF THE DUMP (.gsa) THAT YtnfolmjdicfobaaProg.lean LOADS. Nothing in Lean hashes anything: it is a label: what it is worth is what the hold of that sum in a sandbox is worth. -/
noncomputable def Try.pinned : Pinned := { name := "ytnfolmjdicfobaa", sum := "a1beb1611206ee76def0a2ad0ef2cc9db1fdde8e076c11fe0ec18b5a124b49cc", checked := Try.checked }
namespace Rows
def none {H : Type} : Left H := { results := [], args := [] }

/-- 'laws.FnExactConfigFault': WHATEVER THE INPUT: true; the input reads as it did. -/
def fnExactConfigFaultSpec : ChangeSpec := { name := "fnExactConfigFault", fn := fun _ => fun
  | [d] => { results := [.lit (.bool true)], args := [d] }
  | _ => none }
def fnExactConfigFaultRow : OpenClaim := { program := "ytnfolmjdicfobaa", sum := "a1beb1611206ee76def0a2ad0ef2cc9db1fdde8e076c11fe0ec18b5a124b49cc", func := "loop.example/g00338/laws.FnExactConfigFault", spec := "fnExactConfigFault", unfollowed := true, recurses := true, plainKeys := false, apart := false }
def FnExactConfigFaultSaid : Prop := fnExactConfigFaultRow.holds Try.pinned (OpenSpec.ofChange fnExactConfigFaultSpec)

/-- ITS FALSE NEIGHBOUR: 'it returns false'. Refute it at one input. -/
def fnExactConfigFaultWrong : ChangeSpec := { name := "fnExactConfigFault", fn := fun _ => fun
  | [d] => { results := [.lit (.bool false)], args := [d] }
  | _ => none }
def FnExactConfigFaultWrongFalsely : Prop := fnExactConfigFaultRow.holds Try.pinned (OpenSpec.ofChange fnExactConfigFaultWrong)

/-- 'laws.FnExactNeedOf': WHATEVER THE INPUT: true; the input reads as it did. -/
def fnExactNeedOfSpec : ChangeSpec := { name := "fnExactNeedOf", fn := fun _ => fun
  | [d] => { results := [.lit (.bool true)], args := [d] }
  | _ => none }
def fnExactNeedOfRow : OpenClaim := { program := "ytnfolmjdicfobaa", sum := "a1beb1611206ee76def0a2ad0ef2cc9db1fdde8e076c11fe0ec18b5a124b49cc", func := "loop.example/g00338/laws.FnExactNeedOf", spec := "fnExactNeedOf", plainKeys := false, apart := false }
def FnExactNeedOfSaid : Prop := fnExactNeedOfRow.holds Try.pinned (OpenSpec.ofChange fnExactNeedOfSpec)

/-- ITS FALSE NEIGHBOUR: 'it returns false'. Refute it at one input. -/
def fnExactNeedOfWrong : ChangeSpec := { name := "fnExactNeedOf", fn := fun _ => fun
  | [d] => { results := [.lit (.bool false)], args := [d] }
  | _ => none }
def FnExactNeedOfWrongFalsely : Prop := fnExactNeedOfRow.holds Try.pinned (OpenSpec.ofChange fnExactNeedOfWrong)

/-- 'laws.FnExactReplicasOf': WHATEVER THE INPUT: true; the input reads as it did. -/
def fnExactReplicasOfSpec : ChangeSpec := { name := "fnExactReplicasOf", fn := fun _ => fun
  | [d] => { results := [.lit (.bool true)], args := [d] }
  | _ => none }
def fnExactReplicasOfRow : OpenClaim := { program := "ytnfolmjdicfobaa", sum := "a1beb1611206ee76def0a2ad0ef2cc9db1fdde8e076c11fe0ec18b5a124b49cc", func := "loop.example/g00338/laws.FnExactReplicasOf", spec := "fnExactReplicasOf", plainKeys := false, apart := false }
def FnExactReplicasOfSaid : Prop := fnExactReplicasOfRow.holds Try.pinned (OpenSpec.ofChange fnExactReplicasOfSpec)

/-- ITS FALSE NEIGHBOUR: 'it returns false'. Refute it at one input. -/
def fnExactReplicasOfWrong : ChangeSpec := { name := "fnExactReplicasOf", fn := fun _ => fun
  | [d] => { results := [.lit (.bool false)], args := [d] }
  | _ => none }
def FnExactReplicasOfWrongFalsely : Prop := fnExactReplicasOfRow.holds Try.pinned (OpenSpec.ofChange fnExactReplicasOfWrong)

/-- 'laws.FnExactAllowsIn': WHATEVER THE INPUT: true; the input reads as it did. -/
def fnExactAllowsInSpec : ChangeSpec := { name := "fnExactAllowsIn", fn := fun _ => fun
  | [d1, d2, d3] => { results := [.lit (.bool true)], args := [d1, d2, d3] }
  | _ => none }
def fnExactAllowsInRow : OpenClaim := { program := "ytnfolmjdicfobaa", sum := "a1beb1611206ee76def0a2ad0ef2cc9db1fdde8e076c11fe0ec18b5a124b49cc", func := "loop.example/g00338/laws.FnExactAllowsIn", spec := "fnExactAllowsIn", unfollowed := true, recurses := true, plainKeys := false, apart := false }
def FnExactAllowsInSaid : Prop := fnExactAllowsInRow.holds Try.pinned (OpenSpec.ofChange fnExactAllowsInSpec)

/-- ITS FALSE NEIGHBOUR: 'it returns false'. Refute it at one input. -/
def fnExactAllowsInWrong : ChangeSpec := { name := "fnExactAllowsIn", fn := fun _ => fun
  | [d1, d2, d3] => { results := [.lit (.bool false)], args := [d1, d2, d3] }
  | _ => none }
def FnExactAllowsInWrongFalsely : Prop := fnExactAllowsInRow.holds Try.pinned (OpenSpec.ofChange fnExactAllowsInWrong)

/-- 'laws.FnExactSameConfigs': WHATEVER THE INPUT: true; the input reads as it did. -/
def fnExactSameConfigsSpec : ChangeSpec := { name := "fnExactSameConfigs", fn := fun _ => fun
  | [d1, d2] => { results := [.lit (.bool true)], args := [d1, d2] }
  | _ => none }
def fnExactSameConfigsRow : OpenClaim := { program := "ytnfolmjdicfobaa", sum := "a1beb1611206ee76def0a2ad0ef2cc9db1fdde8e076c11fe0ec18b5a124b49cc", func := "loop.example/g00338/laws.FnExactSameConfigs", spec := "fnExactSameConfigs", unfollowed := true, recurses := true, plainKeys := false, apart := false }
def FnExactSameConfigsSaid : Prop := fnExactSameConfigsRow.holds Try.pinned (OpenSpec.ofChange fnExactSameConfigsSpec)

/-- ITS FALSE NEIGHBOUR: 'it returns false'. Refute it at one input. -/
def fnExactSameConfigsWrong : ChangeSpec := { name := "fnExactSameConfigs", fn := fun _ => fun
  | [d1, d2] => { results := [.lit (.bool false)], args := [d1, d2] }
  | _ => none }
def FnExactSameConfigsWrongFalsely : Prop := fnExactSameConfigsRow.holds Try.pinned (OpenSpec.ofChange fnExactSameConfigsWrong)

/- THE SECOND FORM. 'bulk': how many values and letters a reading holds, each counted each time it is reached (what is shared counts as often as it is met; a slice's spare places count too). A statement '..UptoSaid' is the law's where the arguments, and the package variables that the reading takes, are together of bulk at most 1048576: NARROWER than '..Said'. Prove '..Said' where nothing that the law and all that it calls make is longer than what came in: it says more and counts as full. Else prove '..UptoSaid'. A law counts once. -/
mutual
def uptoBulk {H : Type} : DataW H → Nat
  | .lit (.string bytes) => bytes.length + 1
  | .lit _ => 1
  | .nil => 1
  | .ptr d => uptoBulk d + 1
  | .slice elems spare => uptoBulkAll elems + uptoBulkAll spare + 1
  | .agg parts => uptoBulkAll parts + 1
  | .iface _ d => uptoBulk d + 1
  | .map entries => uptoBulkEntries entries + 1
  | .held _ => 1
def uptoBulkAll {H : Type} : List (DataW H) → Nat
  | [] => 0
  | d :: r => uptoBulk d + uptoBulkAll r
def uptoBulkEntries {H : Type} : List (Lit × DataW H) → Nat
  | [] => 0
  | x :: r => uptoBulkEntry x + uptoBulkEntries r
def uptoBulkEntry {H : Type} : Lit × DataW H → Nat
  | (.string bytes, d) => bytes.length + uptoBulk d + 1
  | (_, d) => uptoBulk d + 1
 end
def uptoSmall : (H : Type) → List (DataW H) → Bool := fun _ ds => decide (uptoBulkAll ds ≤ 1048576)
def OpenSpec.upto (s : _root_.Go.ChangeSpec) : _root_.Go.OpenSpec := { _root_.Go.OpenSpec.ofChange s with cond := some uptoSmall }

/-- 'laws.FnExactConfigFault', WHERE WHAT IT READS IS OF BULK AT MOST 1048576: true; the input reads as it did. -/
def fnExactConfigFaultUptoRow : OpenClaim := { program := "ytnfolmjdicfobaa", sum := "a1beb1611206ee76def0a2ad0ef2cc9db1fdde8e076c11fe0ec18b5a124b49cc", func := "loop.example/g00338/laws.FnExactConfigFault", spec := "fnExactConfigFault", unfollowed := true, recurses := true, plainKeys := false, apart := false, narrowed := true }
def FnExactConfigFaultUptoSaid : Prop := fnExactConfigFaultUptoRow.holds Try.pinned (OpenSpec.upto fnExactConfigFaultSpec)

/-- 'laws.FnExactNeedOf', WHERE WHAT IT READS IS OF BULK AT MOST 1048576: true; the input reads as it did. -/
def fnExactNeedOfUptoRow : OpenClaim := { program := "ytnfolmjdicfobaa", sum := "a1beb1611206ee76def0a2ad0ef2cc9db1fdde8e076c11fe0ec18b5a124b49cc", func := "loop.example/g00338/laws.FnExactNeedOf", spec := "fnExactNeedOf", plainKeys := false, apart := false, narrowed := true }
def FnExactNeedOfUptoSaid : Prop := fnExactNeedOfUptoRow.holds Try.pinned (OpenSpec.upto fnExactNeedOfSpec)

/-- 'laws.FnExactReplicasOf', WHERE WHAT IT READS IS OF BULK AT MOST 1048576: true; the input reads as it did. -/
def fnExactReplicasOfUptoRow : OpenClaim := { program := "ytnfolmjdicfobaa", sum := "a1beb1611206ee76def0a2ad0ef2cc9db1fdde8e076c11fe0ec18b5a124b49cc", func := "loop.example/g00338/laws.FnExactReplicasOf", spec := "fnExactReplicasOf", plainKeys := false, apart := false, narrowed := true }
def FnExactReplicasOfUptoSaid : Prop := fnExactReplicasOfUptoRow.holds Try.pinned (OpenSpec.upto fnExactReplicasOfSpec)

/-- 'laws.FnExactAllowsIn', WHERE WHAT IT READS IS OF BULK AT MOST 1048576: true; the input reads as it did. -/
def fnExactAllowsInUptoRow : OpenClaim := { program := "ytnfolmjdicfobaa", sum := "a1beb1611206ee76def0a2ad0ef2cc9db1fdde8e076c11fe0ec18b5a124b49cc", func := "loop.example/g00338/laws.FnExactAllowsIn", spec := "fnExactAllowsIn", unfollowed := true, recurses := true, plainKeys := false, apart := false, narrowed := true }
def FnExactAllowsInUptoSaid : Prop := fnExactAllowsInUptoRow.holds Try.pinned (OpenSpec.upto fnExactAllowsInSpec)

/-- 'laws.FnExactSameConfigs', WHERE WHAT IT READS IS OF BULK AT MOST 1048576: true; the input reads as it did. -/
def fnExactSameConfigsUptoRow : OpenClaim := { program := "ytnfolmjdicfobaa", sum := "a1beb1611206ee76def0a2ad0ef2cc9db1fdde8e076c11fe0ec18b5a124b49cc", func := "loop.example/g00338/laws.FnExactSameConfigs", spec := "fnExactSameConfigs", unfollowed := true, recurses := true, plainKeys := false, apart := false, narrowed := true }
def FnExactSameConfigsUptoSaid : Prop := fnExactSameConfigsUptoRow.holds Try.pinned (OpenSpec.upto fnExactSameConfigsSpec)

end Rows
end Go.Proofs.Ytnfolmjdicfobaa
