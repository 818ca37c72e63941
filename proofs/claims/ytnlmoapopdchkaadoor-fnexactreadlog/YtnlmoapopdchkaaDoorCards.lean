/-
  DERIVED. GIVEN WITH THE SEED: THE CARDS: each row of YtnlmoapopdchkaaDoorRows.lean that lists a variable, with what it lists TIED to the program's text (the seventh form; the later family's looks); each row that meets fmt, with fmt's text TOLD by the authors' own Lean function (tested against real Go, not proved from fmt's source: count such statements apart). THE CARD IS WHAT COUNTS. Prove the row's statement (the work); the ties are given (YtnlmoapopdchkaaDoorTie.lean); close each card by the builder's one call (the guide's Derived/Test/ToyasCard.lean, 'card_holds'). Laid BY PROGRAM, IN A SANDBOX (cutbox-door.mjs). By AI agents, Wed Nov 11 2026. No macro, syntax, notation, axiom, sorry.
-/
import Derived.Test.YtnlmoapopdchkaaDoorRows
import GoSem.ClaimSeven
namespace Go.Proofs.YtnlmoapopdchkaaDoor
namespace Rows

/-- THE TIED CARD OF 'laws.FnExactReadLog'. -/
def fnExactReadLogCard : Claim7 := { stood := { row := fnExactReadLogRow, standIns := [], harness := (true, "1952477becfe22b0e3bca6d4d36824524c293950fb67f4fae1f4c9a33aff13b6"), looks := false }, kinds := [], alts := [], laidByText := true, laidKinds := [.sentinel], laidTests := true, laidLooks := .later }
def FnExactReadLogCardSaid : Prop := Claim7.holds Tryd.pinned (.plain (OpenSpec.ofChange fnExactReadLogSpec)) fnExactReadLogCard

/-- THE TIED CARD OF 'laws.FnExactWholeIn'. -/
def fnExactWholeInCard : Claim7 := { stood := { row := fnExactWholeInRow, standIns := [], harness := (true, "1952477becfe22b0e3bca6d4d36824524c293950fb67f4fae1f4c9a33aff13b6"), looks := false }, kinds := [], alts := [], laidByText := true, laidKinds := [.sentinel], laidTests := true, laidLooks := .later }
def FnExactWholeInCardSaid : Prop := Claim7.holds Tryd.pinned (.plain (OpenSpec.ofChange fnExactWholeInSpec)) fnExactWholeInCard

/-- THE SECOND FORM's CARD OF 'laws.FnExactReadLog'. -/
def fnExactReadLogUptoCard : Claim7 := { stood := { row := fnExactReadLogUptoRow, standIns := [], harness := (true, "1952477becfe22b0e3bca6d4d36824524c293950fb67f4fae1f4c9a33aff13b6"), looks := false }, kinds := [], alts := [], laidByText := true, laidKinds := [.sentinel], laidTests := true, laidLooks := .later }
def FnExactReadLogUptoCardSaid : Prop := Claim7.holds Tryd.pinned (.plain (OpenSpec.upto fnExactReadLogSpec)) fnExactReadLogUptoCard

/-- THE SECOND FORM's CARD OF 'laws.FnExactWholeIn'. -/
def fnExactWholeInUptoCard : Claim7 := { stood := { row := fnExactWholeInUptoRow, standIns := [], harness := (true, "1952477becfe22b0e3bca6d4d36824524c293950fb67f4fae1f4c9a33aff13b6"), looks := false }, kinds := [], alts := [], laidByText := true, laidKinds := [.sentinel], laidTests := true, laidLooks := .later }
def FnExactWholeInUptoCardSaid : Prop := Claim7.holds Tryd.pinned (.plain (OpenSpec.upto fnExactWholeInSpec)) fnExactWholeInUptoCard
end Rows
end Go.Proofs.YtnlmoapopdchkaaDoor
