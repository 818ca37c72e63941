/-
  DERIVED. GIVEN WITH THE SEED: THE CARDS: each row of YtdmejfhojdkfbaaGreatDoorRows.lean that lists a variable, with what it lists TIED to the program's text (the seventh form; the later family's looks); each row that meets fmt, with fmt's text TOLD by the authors' own Lean function (tested against real Go, not proved from fmt's source: count such statements apart). THE CARD IS WHAT COUNTS. Prove the row's statement (the work); the ties are given (YtdmejfhojdkfbaaGreatDoorTie.lean); close each card by the builder's one call (the guide's Derived/Test/ToyasCard.lean, 'card_holds'). Laid BY PROGRAM, IN A SANDBOX (cutbox-door.mjs). By AI agents, Wed Nov 11 2026. No macro, syntax, notation, axiom, sorry.
-/
import Derived.Test.YtdmejfhojdkfbaaGreatDoorRows
import GoSem.ClaimSeven
namespace Go.Proofs.YtdmejfhojdkfbaaGreatDoor
namespace Rows

/-- THE TIED CARD OF 'laws.FnStatements'. -/
def fnStatementsCard : Claim7 := { stood := { row := fnStatementsRow, standIns := [], harness := (true, "89a097a61efe21e6e10cba534dd71b12bd4e4f471e6fd961148b61ee81d3d52d"), looks := true }, kinds := [], alts := [], laidByText := true, laidKinds := [.data, .data, .data, .data, .sentinel, .sentinel, .sentinel, .pinned], laidTests := true, laidLooks := .later }
def FnStatementsCardSaid : Prop := Claim7.holds Tryz.pinned (.plain (OpenSpec.ofChange fnStatementsSpec)) fnStatementsCard

/-- THE SECOND FORM's CARD OF 'laws.FnStatements'. -/
def fnStatementsUptoCard : Claim7 := { stood := { row := fnStatementsUptoRow, standIns := [], harness := (true, "89a097a61efe21e6e10cba534dd71b12bd4e4f471e6fd961148b61ee81d3d52d"), looks := true }, kinds := [], alts := [], laidByText := true, laidKinds := [.data, .data, .data, .data, .sentinel, .sentinel, .sentinel, .pinned], laidTests := true, laidLooks := .later }
def FnStatementsUptoCardSaid : Prop := Claim7.holds Tryz.pinned (.plain (OpenSpec.upto fnStatementsSpec)) fnStatementsUptoCard
end Rows
end Go.Proofs.YtdmejfhojdkfbaaGreatDoor
