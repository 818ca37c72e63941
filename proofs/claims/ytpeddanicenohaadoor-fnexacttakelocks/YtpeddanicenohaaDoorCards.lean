/-
  DERIVED. GIVEN WITH THE SEED: THE CARDS: each row of YtpeddanicenohaaDoorRows.lean that lists a variable, with what it lists TIED to the program's text (the seventh form; the later family's looks); each row that meets fmt, with fmt's text TOLD by the authors' own Lean function (tested against real Go, not proved from fmt's source: count such statements apart). THE CARD IS WHAT COUNTS. Prove the row's statement (the work); the ties are given (YtpeddanicenohaaDoorTie.lean); close each card by the builder's one call (the guide's Derived/Test/ToyasCard.lean, 'card_holds'). Laid BY PROGRAM, IN A SANDBOX (cutbox-door.mjs). By AI agents, Wed Nov 11 2026. No macro, syntax, notation, axiom, sorry.
-/
import Derived.Test.YtpeddanicenohaaDoorRows
import GoSem.ClaimSeven
namespace Go.Proofs.YtpeddanicenohaaDoor
namespace Rows

/-- THE TIED CARD OF 'laws.FnClasses'. -/
def fnClassesCard : Claim7 := { stood := { row := fnClassesRow, standIns := [], harness := (true, "461d5dd8eb7c19f6ced4daf4962936bd8dd6d9e78c7e8ef2e6608b0580b27173"), looks := true }, kinds := [], alts := [], laidByText := true, laidKinds := [.handle, .sentinel], laidTests := true, laidLooks := .later }
def FnClassesCardSaid : Prop := Claim7.holds Tryd.pinned (.plain (OpenSpec.ofChange fnClassesSpec)) fnClassesCard

/-- THE TIED CARD OF 'laws.FnExactTakeLocks'. -/
def fnExactTakeLocksCard : Claim7 := { stood := { row := fnExactTakeLocksRow, standIns := [], harness := (true, "461d5dd8eb7c19f6ced4daf4962936bd8dd6d9e78c7e8ef2e6608b0580b27173"), looks := true }, kinds := [], alts := [], laidByText := true, laidKinds := [.handle, .sentinel], laidTests := true, laidLooks := .later }
def FnExactTakeLocksCardSaid : Prop := Claim7.holds Tryd.pinned (.plain (OpenSpec.ofChange fnExactTakeLocksSpec)) fnExactTakeLocksCard

/-- THE TIED CARD OF 'laws.FnExactStatementText'. -/
def fnExactStatementTextCard : Claim7 := { stood := { row := fnExactStatementTextRow, standIns := [], harness := (true, "461d5dd8eb7c19f6ced4daf4962936bd8dd6d9e78c7e8ef2e6608b0580b27173"), looks := true }, kinds := [], alts := [], laidByText := true, laidKinds := [.data, .data, .data], laidTests := true, laidLooks := .later }
def FnExactStatementTextCardSaid : Prop := Claim7.holds Tryd.pinned (.plain (OpenSpec.ofChange fnExactStatementTextSpec)) fnExactStatementTextCard

/-- THE TIED CARD OF 'laws.FnExactParseStatement'. -/
def fnExactParseStatementCard : Claim7 := { stood := { row := fnExactParseStatementRow, standIns := [], harness := (true, "461d5dd8eb7c19f6ced4daf4962936bd8dd6d9e78c7e8ef2e6608b0580b27173"), looks := true }, kinds := [], alts := [], laidByText := true, laidKinds := [.data, .data, .data, .data, .sentinel, .sentinel, .sentinel, .pinned], laidTests := true, laidLooks := .later }
def FnExactParseStatementCardSaid : Prop := Claim7.holds Tryd.pinned (.plain (OpenSpec.ofChange fnExactParseStatementSpec)) fnExactParseStatementCard

/-- THE TIED CARD OF 'laws.FnExactUnpackStatement'. -/
def fnExactUnpackStatementCard : Claim7 := { stood := { row := fnExactUnpackStatementRow, standIns := [], harness := (true, "461d5dd8eb7c19f6ced4daf4962936bd8dd6d9e78c7e8ef2e6608b0580b27173"), looks := true }, kinds := [], alts := [], laidByText := true, laidKinds := [.sentinel], laidTests := true, laidLooks := .later }
def FnExactUnpackStatementCardSaid : Prop := Claim7.holds Tryd.pinned (.plain (OpenSpec.ofChange fnExactUnpackStatementSpec)) fnExactUnpackStatementCard

/-- THE SECOND FORM's CARD OF 'laws.FnClasses'. -/
def fnClassesUptoCard : Claim7 := { stood := { row := fnClassesUptoRow, standIns := [], harness := (true, "461d5dd8eb7c19f6ced4daf4962936bd8dd6d9e78c7e8ef2e6608b0580b27173"), looks := true }, kinds := [], alts := [], laidByText := true, laidKinds := [.handle, .sentinel], laidTests := true, laidLooks := .later }
def FnClassesUptoCardSaid : Prop := Claim7.holds Tryd.pinned (.plain (OpenSpec.upto fnClassesSpec)) fnClassesUptoCard

/-- THE SECOND FORM's CARD OF 'laws.FnExactTakeLocks'. -/
def fnExactTakeLocksUptoCard : Claim7 := { stood := { row := fnExactTakeLocksUptoRow, standIns := [], harness := (true, "461d5dd8eb7c19f6ced4daf4962936bd8dd6d9e78c7e8ef2e6608b0580b27173"), looks := true }, kinds := [], alts := [], laidByText := true, laidKinds := [.handle, .sentinel], laidTests := true, laidLooks := .later }
def FnExactTakeLocksUptoCardSaid : Prop := Claim7.holds Tryd.pinned (.plain (OpenSpec.upto fnExactTakeLocksSpec)) fnExactTakeLocksUptoCard

/-- THE SECOND FORM's CARD OF 'laws.FnExactStatementText'. -/
def fnExactStatementTextUptoCard : Claim7 := { stood := { row := fnExactStatementTextUptoRow, standIns := [], harness := (true, "461d5dd8eb7c19f6ced4daf4962936bd8dd6d9e78c7e8ef2e6608b0580b27173"), looks := true }, kinds := [], alts := [], laidByText := true, laidKinds := [.data, .data, .data], laidTests := true, laidLooks := .later }
def FnExactStatementTextUptoCardSaid : Prop := Claim7.holds Tryd.pinned (.plain (OpenSpec.upto fnExactStatementTextSpec)) fnExactStatementTextUptoCard

/-- THE SECOND FORM's CARD OF 'laws.FnExactParseStatement'. -/
def fnExactParseStatementUptoCard : Claim7 := { stood := { row := fnExactParseStatementUptoRow, standIns := [], harness := (true, "461d5dd8eb7c19f6ced4daf4962936bd8dd6d9e78c7e8ef2e6608b0580b27173"), looks := true }, kinds := [], alts := [], laidByText := true, laidKinds := [.data, .data, .data, .data, .sentinel, .sentinel, .sentinel, .pinned], laidTests := true, laidLooks := .later }
def FnExactParseStatementUptoCardSaid : Prop := Claim7.holds Tryd.pinned (.plain (OpenSpec.upto fnExactParseStatementSpec)) fnExactParseStatementUptoCard

/-- THE SECOND FORM's CARD OF 'laws.FnExactUnpackStatement'. -/
def fnExactUnpackStatementUptoCard : Claim7 := { stood := { row := fnExactUnpackStatementUptoRow, standIns := [], harness := (true, "461d5dd8eb7c19f6ced4daf4962936bd8dd6d9e78c7e8ef2e6608b0580b27173"), looks := true }, kinds := [], alts := [], laidByText := true, laidKinds := [.sentinel], laidTests := true, laidLooks := .later }
def FnExactUnpackStatementUptoCardSaid : Prop := Claim7.holds Tryd.pinned (.plain (OpenSpec.upto fnExactUnpackStatementSpec)) fnExactUnpackStatementUptoCard
end Rows
end Go.Proofs.YtpeddanicenohaaDoor
