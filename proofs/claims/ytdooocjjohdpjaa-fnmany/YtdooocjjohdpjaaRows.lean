/-
  No cell of these rows narrows 'for every input' (looked for: loops, veiled, ifaces, maps, wideKeys, modest, calm, conditions, laid).
  DERIVED. THE GIVEN ROWS OF THIS SEAT. 8 by the template 'for every input the law returns true; each argument reads behind the call as it read before'; 0 by the template 'total and deterministic' (their statements: YtdooocjjohdpjaaTotals.lean).
  GIVEN WITH THE SEED: the statements are not yours to turn. If you find one false, say at which input.
  Laid BY PROGRAM, IN A SANDBOX (cutbox-rows.mjs): the forced cells as the released guide's own fill.sh prints them over the translation ab096d62c6b72b5c… (all of the seat's roots in one cut). By AI agents, Wed Nov 11 2026. No macro, syntax, notation, axiom, sorry.
-/
import Derived.Test.YtdooocjjohdpjaaChecked
import GoSem.Claim
import GoSem.ClaimJoined
import GoSem.ClaimMapViews
import Derived.JoinedTies
import Derived.KernelRfl
namespace Go.Proofs.Ytdooocjjohdpjaa
/- THE CELL 'sum', in the pinned program and in every row, IS THE sha256 OF THE DUMP (.gsa) THAT YtdooocjjohdpjaaProg.lean LOADS. Nothing in Lean hashes anything: it is a label: what it is worth is what the hold of that sum in a sandbox is worth. -/
noncomputable def Try.pinned : Pinned := { name := "ytdooocjjohdpjaa", sum := "ab096d62c6b72b5cb18dbdbbcbf46c57a16005775e1743490115f9f4903c5b6c", checked := Try.checked }
namespace Rows
def none {H : Type} : Left H := { results := [], args := [] }

/-- 'laws.FnGrants': WHATEVER THE INPUT: true; the input reads as it did. -/
def fnGrantsSpec : ChangeSpec := { name := "fnGrants", fn := fun _ => fun
  | [d] => { results := [.lit (.bool true)], args := [d] }
  | _ => none }
def fnGrantsRow : OpenClaim := { program := "ytdooocjjohdpjaa", sum := "ab096d62c6b72b5cb18dbdbbcbf46c57a16005775e1743490115f9f4903c5b6c", func := "loop.example/g00338/laws.FnGrants", spec := "fnGrants", inPlace := ["maps.clone"], unfollowed := true, recurses := true, plainKeys := false, apart := false }
def FnGrantsSaid : Prop := fnGrantsRow.holds Try.pinned (OpenSpec.ofChange fnGrantsSpec)

/-- ITS FALSE NEIGHBOUR: 'it returns false'. Refute it at one input. -/
def fnGrantsWrong : ChangeSpec := { name := "fnGrants", fn := fun _ => fun
  | [d] => { results := [.lit (.bool false)], args := [d] }
  | _ => none }
def FnGrantsWrongFalsely : Prop := fnGrantsRow.holds Try.pinned (OpenSpec.ofChange fnGrantsWrong)

/-- 'laws.FnWidens': WHATEVER THE INPUT: true; the input reads as it did. -/
def fnWidensSpec : ChangeSpec := { name := "fnWidens", fn := fun _ => fun
  | [d] => { results := [.lit (.bool true)], args := [d] }
  | _ => none }
def fnWidensRow : OpenClaim := { program := "ytdooocjjohdpjaa", sum := "ab096d62c6b72b5cb18dbdbbcbf46c57a16005775e1743490115f9f4903c5b6c", func := "loop.example/g00338/laws.FnWidens", spec := "fnWidens", unfollowed := true, recurses := true, plainKeys := false, apart := false }
def FnWidensSaid : Prop := fnWidensRow.holds Try.pinned (OpenSpec.ofChange fnWidensSpec)

/-- ITS FALSE NEIGHBOUR: 'it returns false'. Refute it at one input. -/
def fnWidensWrong : ChangeSpec := { name := "fnWidens", fn := fun _ => fun
  | [d] => { results := [.lit (.bool false)], args := [d] }
  | _ => none }
def FnWidensWrongFalsely : Prop := fnWidensRow.holds Try.pinned (OpenSpec.ofChange fnWidensWrong)

/-- 'laws.FnMany': WHATEVER THE INPUT: true; the input reads as it did. -/
def fnManySpec : ChangeSpec := { name := "fnMany", fn := fun _ => fun
  | [d] => { results := [.lit (.bool true)], args := [d] }
  | _ => none }
def fnManyRow : OpenClaim := { program := "ytdooocjjohdpjaa", sum := "ab096d62c6b72b5cb18dbdbbcbf46c57a16005775e1743490115f9f4903c5b6c", func := "loop.example/g00338/laws.FnMany", spec := "fnMany", unfollowed := true, recurses := true, plainKeys := false, apart := false }
def FnManySaid : Prop := fnManyRow.holds Try.pinned (OpenSpec.ofChange fnManySpec)

/-- ITS FALSE NEIGHBOUR: 'it returns false'. Refute it at one input. -/
def fnManyWrong : ChangeSpec := { name := "fnMany", fn := fun _ => fun
  | [d] => { results := [.lit (.bool false)], args := [d] }
  | _ => none }
def FnManyWrongFalsely : Prop := fnManyRow.holds Try.pinned (OpenSpec.ofChange fnManyWrong)

/-- 'laws.FnExactClassesFault': WHATEVER THE INPUT: true; the input reads as it did. -/
def fnExactClassesFaultSpec : ChangeSpec := { name := "fnExactClassesFault", fn := fun _ => fun
  | [d] => { results := [.lit (.bool true)], args := [d] }
  | _ => none }
def fnExactClassesFaultRow : OpenClaim := { program := "ytdooocjjohdpjaa", sum := "ab096d62c6b72b5cb18dbdbbcbf46c57a16005775e1743490115f9f4903c5b6c", func := "loop.example/g00338/laws.FnExactClassesFault", spec := "fnExactClassesFault", plainKeys := false, apart := false }
def FnExactClassesFaultSaid : Prop := fnExactClassesFaultRow.holds Try.pinned (OpenSpec.ofChange fnExactClassesFaultSpec)

/-- ITS FALSE NEIGHBOUR: 'it returns false'. Refute it at one input. -/
def fnExactClassesFaultWrong : ChangeSpec := { name := "fnExactClassesFault", fn := fun _ => fun
  | [d] => { results := [.lit (.bool false)], args := [d] }
  | _ => none }
def FnExactClassesFaultWrongFalsely : Prop := fnExactClassesFaultRow.holds Try.pinned (OpenSpec.ofChange fnExactClassesFaultWrong)

/-- 'laws.FnExactClashForms': WHATEVER THE INPUT: true; the input reads as it did. -/
def fnExactClashFormsSpec : ChangeSpec := { name := "fnExactClashForms", fn := fun _ => fun
  | [d1, d2, d3] => { results := [.lit (.bool true)], args := [d1, d2, d3] }
  | _ => none }
def fnExactClashFormsRow : OpenClaim := { program := "ytdooocjjohdpjaa", sum := "ab096d62c6b72b5cb18dbdbbcbf46c57a16005775e1743490115f9f4903c5b6c", func := "loop.example/g00338/laws.FnExactClashForms", spec := "fnExactClashForms", plainKeys := false, apart := false }
def FnExactClashFormsSaid : Prop := fnExactClashFormsRow.holds Try.pinned (OpenSpec.ofChange fnExactClashFormsSpec)

/-- ITS FALSE NEIGHBOUR: 'it returns false'. Refute it at one input. -/
def fnExactClashFormsWrong : ChangeSpec := { name := "fnExactClashForms", fn := fun _ => fun
  | [d1, d2, d3] => { results := [.lit (.bool false)], args := [d1, d2, d3] }
  | _ => none }
def FnExactClashFormsWrongFalsely : Prop := fnExactClashFormsRow.holds Try.pinned (OpenSpec.ofChange fnExactClashFormsWrong)

/-- 'laws.FnExactLocksFault': WHATEVER THE INPUT: true; the input reads as it did. -/
def fnExactLocksFaultSpec : ChangeSpec := { name := "fnExactLocksFault", fn := fun _ => fun
  | [d] => { results := [.lit (.bool true)], args := [d] }
  | _ => none }
def fnExactLocksFaultRow : OpenClaim := { program := "ytdooocjjohdpjaa", sum := "ab096d62c6b72b5cb18dbdbbcbf46c57a16005775e1743490115f9f4903c5b6c", func := "loop.example/g00338/laws.FnExactLocksFault", spec := "fnExactLocksFault", plainKeys := false, apart := false }
def FnExactLocksFaultSaid : Prop := fnExactLocksFaultRow.holds Try.pinned (OpenSpec.ofChange fnExactLocksFaultSpec)

/-- ITS FALSE NEIGHBOUR: 'it returns false'. Refute it at one input. -/
def fnExactLocksFaultWrong : ChangeSpec := { name := "fnExactLocksFault", fn := fun _ => fun
  | [d] => { results := [.lit (.bool false)], args := [d] }
  | _ => none }
def FnExactLocksFaultWrongFalsely : Prop := fnExactLocksFaultRow.holds Try.pinned (OpenSpec.ofChange fnExactLocksFaultWrong)

/-- 'laws.FnExactFormOf': WHATEVER THE INPUT: true; the input reads as it did. -/
def fnExactFormOfSpec : ChangeSpec := { name := "fnExactFormOf", fn := fun _ => fun
  | [d1, d2, d3, d4] => { results := [.lit (.bool true)], args := [d1, d2, d3, d4] }
  | _ => none }
def fnExactFormOfRow : OpenClaim := { program := "ytdooocjjohdpjaa", sum := "ab096d62c6b72b5cb18dbdbbcbf46c57a16005775e1743490115f9f4903c5b6c", func := "loop.example/g00338/laws.FnExactFormOf", spec := "fnExactFormOf", unfollowed := true, recurses := true, plainKeys := false, apart := false }
def FnExactFormOfSaid : Prop := fnExactFormOfRow.holds Try.pinned (OpenSpec.ofChange fnExactFormOfSpec)

/-- ITS FALSE NEIGHBOUR: 'it returns false'. Refute it at one input. -/
def fnExactFormOfWrong : ChangeSpec := { name := "fnExactFormOf", fn := fun _ => fun
  | [d1, d2, d3, d4] => { results := [.lit (.bool false)], args := [d1, d2, d3, d4] }
  | _ => none }
def FnExactFormOfWrongFalsely : Prop := fnExactFormOfRow.holds Try.pinned (OpenSpec.ofChange fnExactFormOfWrong)

/-- 'laws.FnExactNeedsOf': WHATEVER THE INPUT: true; the input reads as it did. -/
def fnExactNeedsOfSpec : ChangeSpec := { name := "fnExactNeedsOf", fn := fun _ => fun
  | [d1, d2, d3, d4] => { results := [.lit (.bool true)], args := [d1, d2, d3, d4] }
  | _ => none }
def fnExactNeedsOfRow : OpenClaim := { program := "ytdooocjjohdpjaa", sum := "ab096d62c6b72b5cb18dbdbbcbf46c57a16005775e1743490115f9f4903c5b6c", func := "loop.example/g00338/laws.FnExactNeedsOf", spec := "fnExactNeedsOf", unfollowed := true, recurses := true, plainKeys := false, apart := false }
def FnExactNeedsOfSaid : Prop := fnExactNeedsOfRow.holds Try.pinned (OpenSpec.ofChange fnExactNeedsOfSpec)

/-- ITS FALSE NEIGHBOUR: 'it returns false'. Refute it at one input. -/
def fnExactNeedsOfWrong : ChangeSpec := { name := "fnExactNeedsOf", fn := fun _ => fun
  | [d1, d2, d3, d4] => { results := [.lit (.bool false)], args := [d1, d2, d3, d4] }
  | _ => none }
def FnExactNeedsOfWrongFalsely : Prop := fnExactNeedsOfRow.holds Try.pinned (OpenSpec.ofChange fnExactNeedsOfWrong)

/- THE SECOND FORM. 'bulk': how many values and letters a reading holds, each counted each time it is reached (what is shared counts as often as it is met; a slice's spare places count too). A statement '..UptoSaid' is the law's where the arguments, and the package variables that the reading takes, are together of bulk at most 1048576: NARROWER than '..Said'. Prove '..Said' where nothing that the law and all that it calls make is longer than what came in: it says more and counts as full. Else prove '..UptoSaid'. A law counts once. -/
mutual
def uptoBulk {H : Type} : DataW H → Nat
  | .lit (.string bytes) => bytes.length + 1
  | .lit _ => 1
  | .nil => 1
  | .ptr d => uptoBulk d + 1
  | .slice elems spare => uptoBulkAll elems + uptoBulkAll spare + 1
  | .agg parts => uptoBulkAll parts + 1
  | .iface _ d => uptoBulk d + 1
  | .map entries => uptoBulkEntries entries + 1
  | .held _ => 1
def uptoBulkAll {H : Type} : List (DataW H) → Nat
  | [] => 0
  | d :: r => uptoBulk d + uptoBulkAll r
def uptoBulkEntries {H : Type} : List (Lit × DataW H) → Nat
  | [] => 0
  | x :: r => uptoBulkEntry x + uptoBulkEntries r
def uptoBulkEntry {H : Type} : Lit × DataW H → Nat
  | (.string bytes, d) => bytes.length + uptoBulk d + 1
  | (_, d) => uptoBulk d + 1
 end
def uptoSmall : (H : Type) → List (DataW H) → Bool := fun _ ds => decide (uptoBulkAll ds ≤ 1048576)
def OpenSpec.upto (s : _root_.Go.ChangeSpec) : _root_.Go.OpenSpec := { _root_.Go.OpenSpec.ofChange s with cond := some uptoSmall }

/-- 'laws.FnGrants', WHERE WHAT IT READS IS OF BULK AT MOST 1048576: true; the input reads as it did. -/
def fnGrantsUptoRow : OpenClaim := { program := "ytdooocjjohdpjaa", sum := "ab096d62c6b72b5cb18dbdbbcbf46c57a16005775e1743490115f9f4903c5b6c", func := "loop.example/g00338/laws.FnGrants", spec := "fnGrants", inPlace := ["maps.clone"], unfollowed := true, recurses := true, plainKeys := false, apart := false, narrowed := true }
def FnGrantsUptoSaid : Prop := fnGrantsUptoRow.holds Try.pinned (OpenSpec.upto fnGrantsSpec)

/-- 'laws.FnWidens', WHERE WHAT IT READS IS OF BULK AT MOST 1048576: true; the input reads as it did. -/
def fnWidensUptoRow : OpenClaim := { program := "ytdooocjjohdpjaa", sum := "ab096d62c6b72b5cb18dbdbbcbf46c57a16005775e1743490115f9f4903c5b6c", func := "loop.example/g00338/laws.FnWidens", spec := "fnWidens", unfollowed := true, recurses := true, plainKeys := false, apart := false, narrowed := true }
def FnWidensUptoSaid : Prop := fnWidensUptoRow.holds Try.pinned (OpenSpec.upto fnWidensSpec)

/-- 'laws.FnMany', WHERE WHAT IT READS IS OF BULK AT MOST 1048576: true; the input reads as it did. -/
def fnManyUptoRow : OpenClaim := { program := "ytdooocjjohdpjaa", sum := "ab096d62c6b72b5cb18dbdbbcbf46c57a16005775e1743490115f9f4903c5b6c", func := "loop.example/g00338/laws.FnMany", spec := "fnMany", unfollowed := true, recurses := true, plainKeys := false, apart := false, narrowed := true }
def FnManyUptoSaid : Prop := fnManyUptoRow.holds Try.pinned (OpenSpec.upto fnManySpec)

/-- 'laws.FnExactClassesFault', WHERE WHAT IT READS IS OF BULK AT MOST 1048576: true; the input reads as it did. -/
def fnExactClassesFaultUptoRow : OpenClaim := { program := "ytdooocjjohdpjaa", sum := "ab096d62c6b72b5cb18dbdbbcbf46c57a16005775e1743490115f9f4903c5b6c", func := "loop.example/g00338/laws.FnExactClassesFault", spec := "fnExactClassesFault", plainKeys := false, apart := false, narrowed := true }
def FnExactClassesFaultUptoSaid : Prop := fnExactClassesFaultUptoRow.holds Try.pinned (OpenSpec.upto fnExactClassesFaultSpec)

/-- 'laws.FnExactClashForms', WHERE WHAT IT READS IS OF BULK AT MOST 1048576: true; the input reads as it did. -/
def fnExactClashFormsUptoRow : OpenClaim := { program := "ytdooocjjohdpjaa", sum := "ab096d62c6b72b5cb18dbdbbcbf46c57a16005775e1743490115f9f4903c5b6c", func := "loop.example/g00338/laws.FnExactClashForms", spec := "fnExactClashForms", plainKeys := false, apart := false, narrowed := true }
def FnExactClashFormsUptoSaid : Prop := fnExactClashFormsUptoRow.holds Try.pinned (OpenSpec.upto fnExactClashFormsSpec)

/-- 'laws.FnExactLocksFault', WHERE WHAT IT READS IS OF BULK AT MOST 1048576: true; the input reads as it did. -/
def fnExactLocksFaultUptoRow : OpenClaim := { program := "ytdooocjjohdpjaa", sum := "ab096d62c6b72b5cb18dbdbbcbf46c57a16005775e1743490115f9f4903c5b6c", func := "loop.example/g00338/laws.FnExactLocksFault", spec := "fnExactLocksFault", plainKeys := false, apart := false, narrowed := true }
def FnExactLocksFaultUptoSaid : Prop := fnExactLocksFaultUptoRow.holds Try.pinned (OpenSpec.upto fnExactLocksFaultSpec)

/-- 'laws.FnExactFormOf', WHERE WHAT IT READS IS OF BULK AT MOST 1048576: true; the input reads as it did. -/
def fnExactFormOfUptoRow : OpenClaim := { program := "ytdooocjjohdpjaa", sum := "ab096d62c6b72b5cb18dbdbbcbf46c57a16005775e1743490115f9f4903c5b6c", func := "loop.example/g00338/laws.FnExactFormOf", spec := "fnExactFormOf", unfollowed := true, recurses := true, plainKeys := false, apart := false, narrowed := true }
def FnExactFormOfUptoSaid : Prop := fnExactFormOfUptoRow.holds Try.pinned (OpenSpec.upto fnExactFormOfSpec)

/-- 'laws.FnExactNeedsOf', WHERE WHAT IT READS IS OF BULK AT MOST 1048576: true; the input reads as it did. -/
def fnExactNeedsOfUptoRow : OpenClaim := { program := "ytdooocjjohdpjaa", sum := "ab096d62c6b72b5cb18dbdbbcbf46c57a16005775e1743490115f9f4903c5b6c", func := "loop.example/g00338/laws.FnExactNeedsOf", spec := "fnExactNeedsOf", unfollowed := true, recurses := true, plainKeys := false, apart := false, narrowed := true }
def FnExactNeedsOfUptoSaid : Prop := fnExactNeedsOfUptoRow.holds Try.pinned (OpenSpec.upto fnExactNeedsOfSpec)

end Rows
end Go.Proofs.Ytdooocjjohdpjaa
