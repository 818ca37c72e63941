/-
  No cell of these rows narrows 'for every input' (looked for: loops, veiled, ifaces, maps, wideKeys, modest, calm, conditions, laid).
  DERIVED. THE GIVEN ROWS OF THIS SEAT. 9 by the template 'for every input the law returns true; each argument reads behind the call as it read before'; 0 by the template 'total and deterministic' (their statements: YtbebhiglnfmjcaaTotals.lean).
  GIVEN WITH THE SEED: the statements are not yours to turn. If you find one false, say at which input.
  Laid BY PROGRAM, IN A SANDBOX (cutbox-rows.mjs): the forced cells as the released guide's own fill.sh prints them over the translation 46ef658974401b17… (all of the seat's roots in one cut). By AI agents, Wed Nov 11 2026. No macro, syntax, notation, axiom, sorry.
-/
import Derived.Test.YtbebhiglnfmjcaaChecked
import GoSem.Claim
import GoSem.ClaimJoined
import GoSem.ClaimMapViews
import Derived.JoinedTies
import Derived.KernelRfl
namespace Go.Proofs.Ytbebhiglnfmjcaa
/- THE CELL 'sum', in the pinned program and in every row, IS THE sha256 OF THE DUMP (.gsa) THAT YtbebhiglnfmjcaaProg.lean LOADS. Nothing in Lean hashes anything: it is a label: what it is worth is what the hold of that sum in a sandbox is worth. -/
noncomputable def Try.pinned : Pinned := { name := "ytbebhiglnfmjcaa", sum := "46ef658974401b17fa8d1d1a5a561fe71b43a06df4fcad146c137417872e600c", checked := Try.checked }
namespace Rows
def none {H : Type} : Left H := { results := [], args := [] }

/-- 'laws.FnAgree': WHATEVER THE INPUT: true; the input reads as it did. -/
def fnAgreeSpec : ChangeSpec := { name := "fnAgree", fn := fun _ => fun
  | [d] => { results := [.lit (.bool true)], args := [d] }
  | _ => none }
def fnAgreeRow : OpenClaim := { program := "ytbebhiglnfmjcaa", sum := "46ef658974401b17fa8d1d1a5a561fe71b43a06df4fcad146c137417872e600c", func := "loop.example/g00338/laws.FnAgree", spec := "fnAgree", unfollowed := true, recurses := true, apart := false }
def FnAgreeSaid : Prop := fnAgreeRow.holds Try.pinned (OpenSpec.ofChange fnAgreeSpec)

/-- ITS FALSE NEIGHBOUR: 'it returns false'. Refute it at one input. -/
def fnAgreeWrong : ChangeSpec := { name := "fnAgree", fn := fun _ => fun
  | [d] => { results := [.lit (.bool false)], args := [d] }
  | _ => none }
def FnAgreeWrongFalsely : Prop := fnAgreeRow.holds Try.pinned (OpenSpec.ofChange fnAgreeWrong)

/-- 'laws.FnTotal': WHATEVER THE INPUT: true; the input reads as it did. -/
def fnTotalSpec : ChangeSpec := { name := "fnTotal", fn := fun _ => fun
  | [d] => { results := [.lit (.bool true)], args := [d] }
  | _ => none }
def fnTotalRow : OpenClaim := { program := "ytbebhiglnfmjcaa", sum := "46ef658974401b17fa8d1d1a5a561fe71b43a06df4fcad146c137417872e600c", func := "loop.example/g00338/laws.FnTotal", spec := "fnTotal", unfollowed := true, recurses := true, apart := false }
def FnTotalSaid : Prop := fnTotalRow.holds Try.pinned (OpenSpec.ofChange fnTotalSpec)

/-- ITS FALSE NEIGHBOUR: 'it returns false'. Refute it at one input. -/
def fnTotalWrong : ChangeSpec := { name := "fnTotal", fn := fun _ => fun
  | [d] => { results := [.lit (.bool false)], args := [d] }
  | _ => none }
def FnTotalWrongFalsely : Prop := fnTotalRow.holds Try.pinned (OpenSpec.ofChange fnTotalWrong)

/-- 'laws.FnHears': WHATEVER THE INPUT: true; the input reads as it did. -/
def fnHearsSpec : ChangeSpec := { name := "fnHears", fn := fun _ => fun
  | [d] => { results := [.lit (.bool true)], args := [d] }
  | _ => none }
def fnHearsRow : OpenClaim := { program := "ytbebhiglnfmjcaa", sum := "46ef658974401b17fa8d1d1a5a561fe71b43a06df4fcad146c137417872e600c", func := "loop.example/g00338/laws.FnHears", spec := "fnHears", unfollowed := true, recurses := true, apart := false }
def FnHearsSaid : Prop := fnHearsRow.holds Try.pinned (OpenSpec.ofChange fnHearsSpec)

/-- ITS FALSE NEIGHBOUR: 'it returns false'. Refute it at one input. -/
def fnHearsWrong : ChangeSpec := { name := "fnHears", fn := fun _ => fun
  | [d] => { results := [.lit (.bool false)], args := [d] }
  | _ => none }
def FnHearsWrongFalsely : Prop := fnHearsRow.holds Try.pinned (OpenSpec.ofChange fnHearsWrong)

/-- 'laws.FnFresh': WHATEVER THE INPUT: true; the input reads as it did. -/
def fnFreshSpec : ChangeSpec := { name := "fnFresh", fn := fun _ => fun
  | [d] => { results := [.lit (.bool true)], args := [d] }
  | _ => none }
def fnFreshRow : OpenClaim := { program := "ytbebhiglnfmjcaa", sum := "46ef658974401b17fa8d1d1a5a561fe71b43a06df4fcad146c137417872e600c", func := "loop.example/g00338/laws.FnFresh", spec := "fnFresh", unfollowed := true, recurses := true, apart := false }
def FnFreshSaid : Prop := fnFreshRow.holds Try.pinned (OpenSpec.ofChange fnFreshSpec)

/-- ITS FALSE NEIGHBOUR: 'it returns false'. Refute it at one input. -/
def fnFreshWrong : ChangeSpec := { name := "fnFresh", fn := fun _ => fun
  | [d] => { results := [.lit (.bool false)], args := [d] }
  | _ => none }
def FnFreshWrongFalsely : Prop := fnFreshRow.holds Try.pinned (OpenSpec.ofChange fnFreshWrong)

/-- 'laws.FnExactNewCast': WHATEVER THE INPUT: true; the input reads as it did. -/
def fnExactNewCastSpec : ChangeSpec := { name := "fnExactNewCast", fn := fun _ => fun
  | [d1, d2, d3, d4] => { results := [.lit (.bool true)], args := [d1, d2, d3, d4] }
  | _ => none }
def fnExactNewCastRow : OpenClaim := { program := "ytbebhiglnfmjcaa", sum := "46ef658974401b17fa8d1d1a5a561fe71b43a06df4fcad146c137417872e600c", func := "loop.example/g00338/laws.FnExactNewCast", spec := "fnExactNewCast", unfollowed := true, recurses := true, apart := false }
def FnExactNewCastSaid : Prop := fnExactNewCastRow.holds Try.pinned (OpenSpec.ofChange fnExactNewCastSpec)

/-- ITS FALSE NEIGHBOUR: 'it returns false'. Refute it at one input. -/
def fnExactNewCastWrong : ChangeSpec := { name := "fnExactNewCast", fn := fun _ => fun
  | [d1, d2, d3, d4] => { results := [.lit (.bool false)], args := [d1, d2, d3, d4] }
  | _ => none }
def FnExactNewCastWrongFalsely : Prop := fnExactNewCastRow.holds Try.pinned (OpenSpec.ofChange fnExactNewCastWrong)

/-- 'laws.FnExactSayBad': WHATEVER THE INPUT: true; the input reads as it did. -/
def fnExactSayBadSpec : ChangeSpec := { name := "fnExactSayBad", fn := fun _ => fun
  | [d1, d2] => { results := [.lit (.bool true)], args := [d1, d2] }
  | _ => none }
def fnExactSayBadRow : OpenClaim := { program := "ytbebhiglnfmjcaa", sum := "46ef658974401b17fa8d1d1a5a561fe71b43a06df4fcad146c137417872e600c", func := "loop.example/g00338/laws.FnExactSayBad", spec := "fnExactSayBad", unfollowed := true, recurses := true, apart := false }
def FnExactSayBadSaid : Prop := fnExactSayBadRow.holds Try.pinned (OpenSpec.ofChange fnExactSayBadSpec)

/-- ITS FALSE NEIGHBOUR: 'it returns false'. Refute it at one input. -/
def fnExactSayBadWrong : ChangeSpec := { name := "fnExactSayBad", fn := fun _ => fun
  | [d1, d2] => { results := [.lit (.bool false)], args := [d1, d2] }
  | _ => none }
def FnExactSayBadWrongFalsely : Prop := fnExactSayBadRow.holds Try.pinned (OpenSpec.ofChange fnExactSayBadWrong)

/-- 'laws.FnExactHearMsg': WHATEVER THE INPUT: true; the input reads as it did. -/
def fnExactHearMsgSpec : ChangeSpec := { name := "fnExactHearMsg", fn := fun _ => fun
  | [d1, d2] => { results := [.lit (.bool true)], args := [d1, d2] }
  | _ => none }
def fnExactHearMsgRow : OpenClaim := { program := "ytbebhiglnfmjcaa", sum := "46ef658974401b17fa8d1d1a5a561fe71b43a06df4fcad146c137417872e600c", func := "loop.example/g00338/laws.FnExactHearMsg", spec := "fnExactHearMsg", unfollowed := true, recurses := true, apart := false }
def FnExactHearMsgSaid : Prop := fnExactHearMsgRow.holds Try.pinned (OpenSpec.ofChange fnExactHearMsgSpec)

/-- ITS FALSE NEIGHBOUR: 'it returns false'. Refute it at one input. -/
def fnExactHearMsgWrong : ChangeSpec := { name := "fnExactHearMsg", fn := fun _ => fun
  | [d1, d2] => { results := [.lit (.bool false)], args := [d1, d2] }
  | _ => none }
def FnExactHearMsgWrongFalsely : Prop := fnExactHearMsgRow.holds Try.pinned (OpenSpec.ofChange fnExactHearMsgWrong)

/-- 'laws.FnExactDrainCast': WHATEVER THE INPUT: true; the input reads as it did. -/
def fnExactDrainCastSpec : ChangeSpec := { name := "fnExactDrainCast", fn := fun _ => fun
  | [d] => { results := [.lit (.bool true)], args := [d] }
  | _ => none }
def fnExactDrainCastRow : OpenClaim := { program := "ytbebhiglnfmjcaa", sum := "46ef658974401b17fa8d1d1a5a561fe71b43a06df4fcad146c137417872e600c", func := "loop.example/g00338/laws.FnExactDrainCast", spec := "fnExactDrainCast", unfollowed := true, recurses := true, apart := false }
def FnExactDrainCastSaid : Prop := fnExactDrainCastRow.holds Try.pinned (OpenSpec.ofChange fnExactDrainCastSpec)

/-- ITS FALSE NEIGHBOUR: 'it returns false'. Refute it at one input. -/
def fnExactDrainCastWrong : ChangeSpec := { name := "fnExactDrainCast", fn := fun _ => fun
  | [d] => { results := [.lit (.bool false)], args := [d] }
  | _ => none }
def FnExactDrainCastWrongFalsely : Prop := fnExactDrainCastRow.holds Try.pinned (OpenSpec.ofChange fnExactDrainCastWrong)

/-- 'laws.FnExactAgreeRight': WHATEVER THE INPUT: true; the input reads as it did. -/
def fnExactAgreeRightSpec : ChangeSpec := { name := "fnExactAgreeRight", fn := fun _ => fun
  | [d] => { results := [.lit (.bool true)], args := [d] }
  | _ => none }
def fnExactAgreeRightRow : OpenClaim := { program := "ytbebhiglnfmjcaa", sum := "46ef658974401b17fa8d1d1a5a561fe71b43a06df4fcad146c137417872e600c", func := "loop.example/g00338/laws.FnExactAgreeRight", spec := "fnExactAgreeRight", unfollowed := true, recurses := true, apart := false }
def FnExactAgreeRightSaid : Prop := fnExactAgreeRightRow.holds Try.pinned (OpenSpec.ofChange fnExactAgreeRightSpec)

/-- ITS FALSE NEIGHBOUR: 'it returns false'. Refute it at one input. -/
def fnExactAgreeRightWrong : ChangeSpec := { name := "fnExactAgreeRight", fn := fun _ => fun
  | [d] => { results := [.lit (.bool false)], args := [d] }
  | _ => none }
def FnExactAgreeRightWrongFalsely : Prop := fnExactAgreeRightRow.holds Try.pinned (OpenSpec.ofChange fnExactAgreeRightWrong)

/- THE SECOND FORM. 'bulk': how many values and letters a reading holds, each counted each time it is reached (what is shared counts as often as it is met; a slice's spare places count too). A statement '..UptoSaid' is the law's where the arguments, and the package variables that the reading takes, are together of bulk at most 1048576: NARROWER than '..Said'. Prove '..Said' where nothing that the law and all that it calls make is longer than what came in: it says more and counts as full. Else prove '..UptoSaid'. A law counts once. -/
mutual
def uptoBulk {H : Type} : DataW H → Nat
  | .lit (.string bytes) => bytes.length + 1
  | .lit _ => 1
  | .nil => 1
  | .ptr d => uptoBulk d + 1
  | .slice elems spare => uptoBulkAll elems + uptoBulkAll spare + 1
  | .agg parts => uptoBulkAll parts + 1
  | .iface _ d => uptoBulk d + 1
  | .map entries => uptoBulkEntries entries + 1
  | .held _ => 1
def uptoBulkAll {H : Type} : List (DataW H) → Nat
  | [] => 0
  | d :: r => uptoBulk d + uptoBulkAll r
def uptoBulkEntries {H : Type} : List (Lit × DataW H) → Nat
  | [] => 0
  | x :: r => uptoBulkEntry x + uptoBulkEntries r
def uptoBulkEntry {H : Type} : Lit × DataW H → Nat
  | (.string bytes, d) => bytes.length + uptoBulk d + 1
  | (_, d) => uptoBulk d + 1
 end
def uptoSmall : (H : Type) → List (DataW H) → Bool := fun _ ds => decide (uptoBulkAll ds ≤ 1048576)
def OpenSpec.upto (s : _root_.Go.ChangeSpec) : _root_.Go.OpenSpec := { _root_.Go.OpenSpec.ofChange s with cond := some uptoSmall }

/-- 'laws.FnAgree', WHERE WHAT IT READS IS OF BULK AT MOST 1048576: true; the input reads as it did. -/
def fnAgreeUptoRow : OpenClaim := { program := "ytbebhiglnfmjcaa", sum := "46ef658974401b17fa8d1d1a5a561fe71b43a06df4fcad146c137417872e600c", func := "loop.example/g00338/laws.FnAgree", spec := "fnAgree", unfollowed := true, recurses := true, apart := false, narrowed := true }
def FnAgreeUptoSaid : Prop := fnAgreeUptoRow.holds Try.pinned (OpenSpec.upto fnAgreeSpec)

/-- 'laws.FnTotal', WHERE WHAT IT READS IS OF BULK AT MOST 1048576: true; the input reads as it did. -/
def fnTotalUptoRow : OpenClaim := { program := "ytbebhiglnfmjcaa", sum := "46ef658974401b17fa8d1d1a5a561fe71b43a06df4fcad146c137417872e600c", func := "loop.example/g00338/laws.FnTotal", spec := "fnTotal", unfollowed := true, recurses := true, apart := false, narrowed := true }
def FnTotalUptoSaid : Prop := fnTotalUptoRow.holds Try.pinned (OpenSpec.upto fnTotalSpec)

/-- 'laws.FnHears', WHERE WHAT IT READS IS OF BULK AT MOST 1048576: true; the input reads as it did. -/
def fnHearsUptoRow : OpenClaim := { program := "ytbebhiglnfmjcaa", sum := "46ef658974401b17fa8d1d1a5a561fe71b43a06df4fcad146c137417872e600c", func := "loop.example/g00338/laws.FnHears", spec := "fnHears", unfollowed := true, recurses := true, apart := false, narrowed := true }
def FnHearsUptoSaid : Prop := fnHearsUptoRow.holds Try.pinned (OpenSpec.upto fnHearsSpec)

/-- 'laws.FnFresh', WHERE WHAT IT READS IS OF BULK AT MOST 1048576: true; the input reads as it did. -/
def fnFreshUptoRow : OpenClaim := { program := "ytbebhiglnfmjcaa", sum := "46ef658974401b17fa8d1d1a5a561fe71b43a06df4fcad146c137417872e600c", func := "loop.example/g00338/laws.FnFresh", spec := "fnFresh", unfollowed := true, recurses := true, apart := false, narrowed := true }
def FnFreshUptoSaid : Prop := fnFreshUptoRow.holds Try.pinned (OpenSpec.upto fnFreshSpec)

/-- 'laws.FnExactNewCast', WHERE WHAT IT READS IS OF BULK AT MOST 1048576: true; the input reads as it did. -/
def fnExactNewCastUptoRow : OpenClaim := { program := "ytbebhiglnfmjcaa", sum := "46ef658974401b17fa8d1d1a5a561fe71b43a06df4fcad146c137417872e600c", func := "loop.example/g00338/laws.FnExactNewCast", spec := "fnExactNewCast", unfollowed := true, recurses := true, apart := false, narrowed := true }
def FnExactNewCastUptoSaid : Prop := fnExactNewCastUptoRow.holds Try.pinned (OpenSpec.upto fnExactNewCastSpec)

/-- 'laws.FnExactSayBad', WHERE WHAT IT READS IS OF BULK AT MOST 1048576: true; the input reads as it did. -/
def fnExactSayBadUptoRow : OpenClaim := { program := "ytbebhiglnfmjcaa", sum := "46ef658974401b17fa8d1d1a5a561fe71b43a06df4fcad146c137417872e600c", func := "loop.example/g00338/laws.FnExactSayBad", spec := "fnExactSayBad", unfollowed := true, recurses := true, apart := false, narrowed := true }
def FnExactSayBadUptoSaid : Prop := fnExactSayBadUptoRow.holds Try.pinned (OpenSpec.upto fnExactSayBadSpec)

/-- 'laws.FnExactHearMsg', WHERE WHAT IT READS IS OF BULK AT MOST 1048576: true; the input reads as it did. -/
def fnExactHearMsgUptoRow : OpenClaim := { program := "ytbebhiglnfmjcaa", sum := "46ef658974401b17fa8d1d1a5a561fe71b43a06df4fcad146c137417872e600c", func := "loop.example/g00338/laws.FnExactHearMsg", spec := "fnExactHearMsg", unfollowed := true, recurses := true, apart := false, narrowed := true }
def FnExactHearMsgUptoSaid : Prop := fnExactHearMsgUptoRow.holds Try.pinned (OpenSpec.upto fnExactHearMsgSpec)

/-- 'laws.FnExactDrainCast', WHERE WHAT IT READS IS OF BULK AT MOST 1048576: true; the input reads as it did. -/
def fnExactDrainCastUptoRow : OpenClaim := { program := "ytbebhiglnfmjcaa", sum := "46ef658974401b17fa8d1d1a5a561fe71b43a06df4fcad146c137417872e600c", func := "loop.example/g00338/laws.FnExactDrainCast", spec := "fnExactDrainCast", unfollowed := true, recurses := true, apart := false, narrowed := true }
def FnExactDrainCastUptoSaid : Prop := fnExactDrainCastUptoRow.holds Try.pinned (OpenSpec.upto fnExactDrainCastSpec)

/-- 'laws.FnExactAgreeRight', WHERE WHAT IT READS IS OF BULK AT MOST 1048576: true; the input reads as it did. -/
def fnExactAgreeRightUptoRow : OpenClaim := { program := "ytbebhiglnfmjcaa", sum := "46ef658974401b17fa8d1d1a5a561fe71b43a06df4fcad146c137417872e600c", func := "loop.example/g00338/laws.FnExactAgreeRight", spec := "fnExactAgreeRight", unfollowed := true, recurses := true, apart := false, narrowed := true }
def FnExactAgreeRightUptoSaid : Prop := fnExactAgreeRightUptoRow.holds Try.pinned (OpenSpec.upto fnExactAgreeRightSpec)

end Rows
end Go.Proofs.Ytbebhiglnfmjcaa
