/-
  No cell of these rows narrows 'for every input' (looked for: loops, veiled, ifaces, maps, wideKeys, modest, calm, conditions, laid).
  DERIVED. THE GIVEN ROWS OF THIS SEAT. 9 by the template 'for every input the law returns true; each argument reads behind the call as it read before'; 0 by the template 'total and deterministic' (their statements: YtdfhebmecbcegaaTotals.lean).
  GIVEN WITH THE SEED: the statements are not yours to turn. If you find one false, say at which input.
  Laid BY PROGRAM, IN A SANDBOX (cutbox-rows.mjs): the forced cells as the released guide's own fill.sh prints them over the translation fe4b29a8ed6ee243… (all of the seat's roots in one cut). By AI agents, Wed Nov 11 2026. No macro, syntax, notation, axiom, sorry.
-/
import Derived.Test.YtdfhebmecbcegaaChecked
import GoSem.Claim
import GoSem.ClaimJoined
import GoSem.ClaimMapViews
import Derived.JoinedTies
import Derived.KernelRfl
namespace Go.Proofs.Ytdfhebmecbcegaa
/- THE CELL 'sum', in the pinned program and in every row, IS THE sha256 OF THE DUMP (.gsa) THAT YtdfhebmecbcegaaProg.lean LOADS. Nothing in Lean hashes anything: it is a label: what it is worth is what the hold of that sum in a sandbox is worth. -/
noncomputable def Try.pinned : Pinned := { name := "ytdfhebmecbcegaa", sum := "fe4b29a8ed6ee2431f6aa503321e9e11f75c0936222e3330286c458143068bf5", checked := Try.checked }
namespace Rows
def none {H : Type} : Left H := { results := [], args := [] }

/-- 'laws.FnCerts': WHATEVER THE INPUT: true; the input reads as it did. -/
def fnCertsSpec : ChangeSpec := { name := "fnCerts", fn := fun _ => fun
  | [d] => { results := [.lit (.bool true)], args := [d] }
  | _ => none }
def fnCertsRow : OpenClaim := { program := "ytdfhebmecbcegaa", sum := "fe4b29a8ed6ee2431f6aa503321e9e11f75c0936222e3330286c458143068bf5", func := "loop.example/g00338/laws.FnCerts", spec := "fnCerts", unfollowed := true, recurses := true, apart := false }
def FnCertsSaid : Prop := fnCertsRow.holds Try.pinned (OpenSpec.ofChange fnCertsSpec)

/-- ITS FALSE NEIGHBOUR: 'it returns false'. Refute it at one input. -/
def fnCertsWrong : ChangeSpec := { name := "fnCerts", fn := fun _ => fun
  | [d] => { results := [.lit (.bool false)], args := [d] }
  | _ => none }
def FnCertsWrongFalsely : Prop := fnCertsRow.holds Try.pinned (OpenSpec.ofChange fnCertsWrong)

/-- 'laws.FnVerifies': WHATEVER THE INPUT: true; the input reads as it did. -/
def fnVerifiesSpec : ChangeSpec := { name := "fnVerifies", fn := fun _ => fun
  | [d] => { results := [.lit (.bool true)], args := [d] }
  | _ => none }
def fnVerifiesRow : OpenClaim := { program := "ytdfhebmecbcegaa", sum := "fe4b29a8ed6ee2431f6aa503321e9e11f75c0936222e3330286c458143068bf5", func := "loop.example/g00338/laws.FnVerifies", spec := "fnVerifies", unfollowed := true, recurses := true, apart := false }
def FnVerifiesSaid : Prop := fnVerifiesRow.holds Try.pinned (OpenSpec.ofChange fnVerifiesSpec)

/-- ITS FALSE NEIGHBOUR: 'it returns false'. Refute it at one input. -/
def fnVerifiesWrong : ChangeSpec := { name := "fnVerifies", fn := fun _ => fun
  | [d] => { results := [.lit (.bool false)], args := [d] }
  | _ => none }
def FnVerifiesWrongFalsely : Prop := fnVerifiesRow.holds Try.pinned (OpenSpec.ofChange fnVerifiesWrong)

/-- 'laws.FnMeets': WHATEVER THE INPUT: true; the input reads as it did. -/
def fnMeetsSpec : ChangeSpec := { name := "fnMeets", fn := fun _ => fun
  | [d] => { results := [.lit (.bool true)], args := [d] }
  | _ => none }
def fnMeetsRow : OpenClaim := { program := "ytdfhebmecbcegaa", sum := "fe4b29a8ed6ee2431f6aa503321e9e11f75c0936222e3330286c458143068bf5", func := "loop.example/g00338/laws.FnMeets", spec := "fnMeets", unfollowed := true, recurses := true, apart := false }
def FnMeetsSaid : Prop := fnMeetsRow.holds Try.pinned (OpenSpec.ofChange fnMeetsSpec)

/-- ITS FALSE NEIGHBOUR: 'it returns false'. Refute it at one input. -/
def fnMeetsWrong : ChangeSpec := { name := "fnMeets", fn := fun _ => fun
  | [d] => { results := [.lit (.bool false)], args := [d] }
  | _ => none }
def FnMeetsWrongFalsely : Prop := fnMeetsRow.holds Try.pinned (OpenSpec.ofChange fnMeetsWrong)

/-- 'laws.FnExactSharesFault': WHATEVER THE INPUT: true; the input reads as it did. -/
def fnExactSharesFaultSpec : ChangeSpec := { name := "fnExactSharesFault", fn := fun _ => fun
  | [d1, d2] => { results := [.lit (.bool true)], args := [d1, d2] }
  | _ => none }
def fnExactSharesFaultRow : OpenClaim := { program := "ytdfhebmecbcegaa", sum := "fe4b29a8ed6ee2431f6aa503321e9e11f75c0936222e3330286c458143068bf5", func := "loop.example/g00338/laws.FnExactSharesFault", spec := "fnExactSharesFault", apart := false }
def FnExactSharesFaultSaid : Prop := fnExactSharesFaultRow.holds Try.pinned (OpenSpec.ofChange fnExactSharesFaultSpec)

/-- ITS FALSE NEIGHBOUR: 'it returns false'. Refute it at one input. -/
def fnExactSharesFaultWrong : ChangeSpec := { name := "fnExactSharesFault", fn := fun _ => fun
  | [d1, d2] => { results := [.lit (.bool false)], args := [d1, d2] }
  | _ => none }
def FnExactSharesFaultWrongFalsely : Prop := fnExactSharesFaultRow.holds Try.pinned (OpenSpec.ofChange fnExactSharesFaultWrong)

/-- 'laws.FnExactSignersOf': WHATEVER THE INPUT: true; the input reads as it did. -/
def fnExactSignersOfSpec : ChangeSpec := { name := "fnExactSignersOf", fn := fun _ => fun
  | [d1, d2] => { results := [.lit (.bool true)], args := [d1, d2] }
  | _ => none }
def fnExactSignersOfRow : OpenClaim := { program := "ytdfhebmecbcegaa", sum := "fe4b29a8ed6ee2431f6aa503321e9e11f75c0936222e3330286c458143068bf5", func := "loop.example/g00338/laws.FnExactSignersOf", spec := "fnExactSignersOf", unfollowed := true, recurses := true, apart := false }
def FnExactSignersOfSaid : Prop := fnExactSignersOfRow.holds Try.pinned (OpenSpec.ofChange fnExactSignersOfSpec)

/-- ITS FALSE NEIGHBOUR: 'it returns false'. Refute it at one input. -/
def fnExactSignersOfWrong : ChangeSpec := { name := "fnExactSignersOf", fn := fun _ => fun
  | [d1, d2] => { results := [.lit (.bool false)], args := [d1, d2] }
  | _ => none }
def FnExactSignersOfWrongFalsely : Prop := fnExactSignersOfRow.holds Try.pinned (OpenSpec.ofChange fnExactSignersOfWrong)

/-- 'laws.FnExactCombine': WHATEVER THE INPUT: true; the input reads as it did. -/
def fnExactCombineSpec : ChangeSpec := { name := "fnExactCombine", fn := fun _ => fun
  | [d1, d2, d3] => { results := [.lit (.bool true)], args := [d1, d2, d3] }
  | _ => none }
def fnExactCombineRow : OpenClaim := { program := "ytdfhebmecbcegaa", sum := "fe4b29a8ed6ee2431f6aa503321e9e11f75c0936222e3330286c458143068bf5", func := "loop.example/g00338/laws.FnExactCombine", spec := "fnExactCombine", unfollowed := true, recurses := true, apart := false }
def FnExactCombineSaid : Prop := fnExactCombineRow.holds Try.pinned (OpenSpec.ofChange fnExactCombineSpec)

/-- ITS FALSE NEIGHBOUR: 'it returns false'. Refute it at one input. -/
def fnExactCombineWrong : ChangeSpec := { name := "fnExactCombine", fn := fun _ => fun
  | [d1, d2, d3] => { results := [.lit (.bool false)], args := [d1, d2, d3] }
  | _ => none }
def FnExactCombineWrongFalsely : Prop := fnExactCombineRow.holds Try.pinned (OpenSpec.ofChange fnExactCombineWrong)

/-- 'laws.FnExactVerifyCert': WHATEVER THE INPUT: true; the input reads as it did. -/
def fnExactVerifyCertSpec : ChangeSpec := { name := "fnExactVerifyCert", fn := fun _ => fun
  | [d1, d2, d3] => { results := [.lit (.bool true)], args := [d1, d2, d3] }
  | _ => none }
def fnExactVerifyCertRow : OpenClaim := { program := "ytdfhebmecbcegaa", sum := "fe4b29a8ed6ee2431f6aa503321e9e11f75c0936222e3330286c458143068bf5", func := "loop.example/g00338/laws.FnExactVerifyCert", spec := "fnExactVerifyCert", apart := false }
def FnExactVerifyCertSaid : Prop := fnExactVerifyCertRow.holds Try.pinned (OpenSpec.ofChange fnExactVerifyCertSpec)

/-- ITS FALSE NEIGHBOUR: 'it returns false'. Refute it at one input. -/
def fnExactVerifyCertWrong : ChangeSpec := { name := "fnExactVerifyCert", fn := fun _ => fun
  | [d1, d2, d3] => { results := [.lit (.bool false)], args := [d1, d2, d3] }
  | _ => none }
def FnExactVerifyCertWrongFalsely : Prop := fnExactVerifyCertRow.holds Try.pinned (OpenSpec.ofChange fnExactVerifyCertWrong)

/-- 'laws.FnExactCommonOf': WHATEVER THE INPUT: true; the input reads as it did. -/
def fnExactCommonOfSpec : ChangeSpec := { name := "fnExactCommonOf", fn := fun _ => fun
  | [d1, d2] => { results := [.lit (.bool true)], args := [d1, d2] }
  | _ => none }
def fnExactCommonOfRow : OpenClaim := { program := "ytdfhebmecbcegaa", sum := "fe4b29a8ed6ee2431f6aa503321e9e11f75c0936222e3330286c458143068bf5", func := "loop.example/g00338/laws.FnExactCommonOf", spec := "fnExactCommonOf", apart := false }
def FnExactCommonOfSaid : Prop := fnExactCommonOfRow.holds Try.pinned (OpenSpec.ofChange fnExactCommonOfSpec)

/-- ITS FALSE NEIGHBOUR: 'it returns false'. Refute it at one input. -/
def fnExactCommonOfWrong : ChangeSpec := { name := "fnExactCommonOf", fn := fun _ => fun
  | [d1, d2] => { results := [.lit (.bool false)], args := [d1, d2] }
  | _ => none }
def FnExactCommonOfWrongFalsely : Prop := fnExactCommonOfRow.holds Try.pinned (OpenSpec.ofChange fnExactCommonOfWrong)

/-- 'laws.FnExactIsSigned': WHATEVER THE INPUT: true; the input reads as it did. -/
def fnExactIsSignedSpec : ChangeSpec := { name := "fnExactIsSigned", fn := fun _ => fun
  | [d1, d2, d3] => { results := [.lit (.bool true)], args := [d1, d2, d3] }
  | _ => none }
def fnExactIsSignedRow : OpenClaim := { program := "ytdfhebmecbcegaa", sum := "fe4b29a8ed6ee2431f6aa503321e9e11f75c0936222e3330286c458143068bf5", func := "loop.example/g00338/laws.FnExactIsSigned", spec := "fnExactIsSigned", unfollowed := true, recurses := true, apart := false }
def FnExactIsSignedSaid : Prop := fnExactIsSignedRow.holds Try.pinned (OpenSpec.ofChange fnExactIsSignedSpec)

/-- ITS FALSE NEIGHBOUR: 'it returns false'. Refute it at one input. -/
def fnExactIsSignedWrong : ChangeSpec := { name := "fnExactIsSigned", fn := fun _ => fun
  | [d1, d2, d3] => { results := [.lit (.bool false)], args := [d1, d2, d3] }
  | _ => none }
def FnExactIsSignedWrongFalsely : Prop := fnExactIsSignedRow.holds Try.pinned (OpenSpec.ofChange fnExactIsSignedWrong)

/- THE SECOND FORM. 'bulk': how many values and letters a reading holds, each counted each time it is reached (what is shared counts as often as it is met; a slice's spare places count too). A statement '..UptoSaid' is the law's where the arguments, and the package variables that the reading takes, are together of bulk at most 1048576: NARROWER than '..Said'. Prove '..Said' where nothing that the law and all that it calls make is longer than what came in: it says more and counts as full. Else prove '..UptoSaid'. A law counts once. -/
mutual
def uptoBulk {H : Type} : DataW H → Nat
  | .lit (.string bytes) => bytes.length + 1
  | .lit _ => 1
  | .nil => 1
  | .ptr d => uptoBulk d + 1
  | .slice elems spare => uptoBulkAll elems + uptoBulkAll spare + 1
  | .agg parts => uptoBulkAll parts + 1
  | .iface _ d => uptoBulk d + 1
  | .map entries => uptoBulkEntries entries + 1
  | .held _ => 1
def uptoBulkAll {H : Type} : List (DataW H) → Nat
  | [] => 0
  | d :: r => uptoBulk d + uptoBulkAll r
def uptoBulkEntries {H : Type} : List (Lit × DataW H) → Nat
  | [] => 0
  | x :: r => uptoBulkEntry x + uptoBulkEntries r
def uptoBulkEntry {H : Type} : Lit × DataW H → Nat
  | (.string bytes, d) => bytes.length + uptoBulk d + 1
  | (_, d) => uptoBulk d + 1
 end
def uptoSmall : (H : Type) → List (DataW H) → Bool := fun _ ds => decide (uptoBulkAll ds ≤ 1048576)
def OpenSpec.upto (s : _root_.Go.ChangeSpec) : _root_.Go.OpenSpec := { _root_.Go.OpenSpec.ofChange s with cond := some uptoSmall }

/-- 'laws.FnCerts', WHERE WHAT IT READS IS OF BULK AT MOST 1048576: true; the input reads as it did. -/
def fnCertsUptoRow : OpenClaim := { program := "ytdfhebmecbcegaa", sum := "fe4b29a8ed6ee2431f6aa503321e9e11f75c0936222e3330286c458143068bf5", func := "loop.example/g00338/laws.FnCerts", spec := "fnCerts", unfollowed := true, recurses := true, apart := false, narrowed := true }
def FnCertsUptoSaid : Prop := fnCertsUptoRow.holds Try.pinned (OpenSpec.upto fnCertsSpec)

/-- 'laws.FnVerifies', WHERE WHAT IT READS IS OF BULK AT MOST 1048576: true; the input reads as it did. -/
def fnVerifiesUptoRow : OpenClaim := { program := "ytdfhebmecbcegaa", sum := "fe4b29a8ed6ee2431f6aa503321e9e11f75c0936222e3330286c458143068bf5", func := "loop.example/g00338/laws.FnVerifies", spec := "fnVerifies", unfollowed := true, recurses := true, apart := false, narrowed := true }
def FnVerifiesUptoSaid : Prop := fnVerifiesUptoRow.holds Try.pinned (OpenSpec.upto fnVerifiesSpec)

/-- 'laws.FnMeets', WHERE WHAT IT READS IS OF BULK AT MOST 1048576: true; the input reads as it did. -/
def fnMeetsUptoRow : OpenClaim := { program := "ytdfhebmecbcegaa", sum := "fe4b29a8ed6ee2431f6aa503321e9e11f75c0936222e3330286c458143068bf5", func := "loop.example/g00338/laws.FnMeets", spec := "fnMeets", unfollowed := true, recurses := true, apart := false, narrowed := true }
def FnMeetsUptoSaid : Prop := fnMeetsUptoRow.holds Try.pinned (OpenSpec.upto fnMeetsSpec)

/-- 'laws.FnExactSharesFault', WHERE WHAT IT READS IS OF BULK AT MOST 1048576: true; the input reads as it did. -/
def fnExactSharesFaultUptoRow : OpenClaim := { program := "ytdfhebmecbcegaa", sum := "fe4b29a8ed6ee2431f6aa503321e9e11f75c0936222e3330286c458143068bf5", func := "loop.example/g00338/laws.FnExactSharesFault", spec := "fnExactSharesFault", apart := false, narrowed := true }
def FnExactSharesFaultUptoSaid : Prop := fnExactSharesFaultUptoRow.holds Try.pinned (OpenSpec.upto fnExactSharesFaultSpec)

/-- 'laws.FnExactSignersOf', WHERE WHAT IT READS IS OF BULK AT MOST 1048576: true; the input reads as it did. -/
def fnExactSignersOfUptoRow : OpenClaim := { program := "ytdfhebmecbcegaa", sum := "fe4b29a8ed6ee2431f6aa503321e9e11f75c0936222e3330286c458143068bf5", func := "loop.example/g00338/laws.FnExactSignersOf", spec := "fnExactSignersOf", unfollowed := true, recurses := true, apart := false, narrowed := true }
def FnExactSignersOfUptoSaid : Prop := fnExactSignersOfUptoRow.holds Try.pinned (OpenSpec.upto fnExactSignersOfSpec)

/-- 'laws.FnExactCombine', WHERE WHAT IT READS IS OF BULK AT MOST 1048576: true; the input reads as it did. -/
def fnExactCombineUptoRow : OpenClaim := { program := "ytdfhebmecbcegaa", sum := "fe4b29a8ed6ee2431f6aa503321e9e11f75c0936222e3330286c458143068bf5", func := "loop.example/g00338/laws.FnExactCombine", spec := "fnExactCombine", unfollowed := true, recurses := true, apart := false, narrowed := true }
def FnExactCombineUptoSaid : Prop := fnExactCombineUptoRow.holds Try.pinned (OpenSpec.upto fnExactCombineSpec)

/-- 'laws.FnExactVerifyCert', WHERE WHAT IT READS IS OF BULK AT MOST 1048576: true; the input reads as it did. -/
def fnExactVerifyCertUptoRow : OpenClaim := { program := "ytdfhebmecbcegaa", sum := "fe4b29a8ed6ee2431f6aa503321e9e11f75c0936222e3330286c458143068bf5", func := "loop.example/g00338/laws.FnExactVerifyCert", spec := "fnExactVerifyCert", apart := false, narrowed := true }
def FnExactVerifyCertUptoSaid : Prop := fnExactVerifyCertUptoRow.holds Try.pinned (OpenSpec.upto fnExactVerifyCertSpec)

/-- 'laws.FnExactCommonOf', WHERE WHAT IT READS IS OF BULK AT MOST 1048576: true; the input reads as it did. -/
def fnExactCommonOfUptoRow : OpenClaim := { program := "ytdfhebmecbcegaa", sum := "fe4b29a8ed6ee2431f6aa503321e9e11f75c0936222e3330286c458143068bf5", func := "loop.example/g00338/laws.FnExactCommonOf", spec := "fnExactCommonOf", apart := false, narrowed := true }
def FnExactCommonOfUptoSaid : Prop := fnExactCommonOfUptoRow.holds Try.pinned (OpenSpec.upto fnExactCommonOfSpec)

/-- 'laws.FnExactIsSigned', WHERE WHAT IT READS IS OF BULK AT MOST 1048576: true; the input reads as it did. -/
def fnExactIsSignedUptoRow : OpenClaim := { program := "ytdfhebmecbcegaa", sum := "fe4b29a8ed6ee2431f6aa503321e9e11f75c0936222e3330286c458143068bf5", func := "loop.example/g00338/laws.FnExactIsSigned", spec := "fnExactIsSigned", unfollowed := true, recurses := true, apart := false, narrowed := true }
def FnExactIsSignedUptoSaid : Prop := fnExactIsSignedUptoRow.holds Try.pinned (OpenSpec.upto fnExactIsSignedSpec)

end Rows
end Go.Proofs.Ytdfhebmecbcegaa
