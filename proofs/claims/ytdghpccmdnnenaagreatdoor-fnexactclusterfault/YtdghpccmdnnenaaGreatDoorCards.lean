/-
  DERIVED. GIVEN WITH THE SEED: THE CARDS: each row of YtdghpccmdnnenaaGreatDoorRows.lean that lists a variable, with what it lists TIED to the program's text (the seventh form; the later family's looks); each row that meets fmt, with fmt's text TOLD by the authors' own Lean function (tested against real Go, not proved from fmt's source: count such statements apart). THE CARD IS WHAT COUNTS. Prove the row's statement (the work); the ties are given (YtdghpccmdnnenaaGreatDoorTie.lean); close each card by the builder's one call (the guide's Derived/Test/ToyasCard.lean, 'card_holds'). Laid BY PROGRAM, IN A SANDBOX (cutbox-door.mjs). By AI agents, Wed Nov 11 2026. No macro, syntax, notation, axiom, sorry.
-/
import Derived.Test.YtdghpccmdnnenaaGreatDoorRows
import GoSem.ClaimSeven
namespace Go.Proofs.YtdghpccmdnnenaaGreatDoor
namespace Rows

/-- THE TIED CARD OF 'laws.FnExactClusterFault'. -/
def fnExactClusterFaultCard : Claim7 := { stood := { row := fnExactClusterFaultRow, standIns := [], harness := (true, "d2e325f2245a79fd8f6e9c5358e79e3c494893115a323555035d47cfeceedd4e"), looks := true }, kinds := [], alts := [], laidByText := true, laidKinds := [.handle, .sentinel], laidTests := true, laidLooks := .later }
def FnExactClusterFaultCardSaid : Prop := Claim7.holds Tryz.pinned (.plain (OpenSpec.ofChange fnExactClusterFaultSpec)) fnExactClusterFaultCard

/-- THE TIED CARD OF 'laws.FnExactSignedOf'. -/
def fnExactSignedOfCard : Claim7 := { stood := { row := fnExactSignedOfRow, standIns := [], harness := (true, "d2e325f2245a79fd8f6e9c5358e79e3c494893115a323555035d47cfeceedd4e"), looks := true }, kinds := [], alts := [], laidByText := true, laidKinds := [.handle, .sentinel], laidTests := true, laidLooks := .later }
def FnExactSignedOfCardSaid : Prop := Claim7.holds Tryz.pinned (.plain (OpenSpec.ofChange fnExactSignedOfSpec)) fnExactSignedOfCard

/-- THE TIED CARD OF 'laws.FnExactStoodBy'. -/
def fnExactStoodByCard : Claim7 := { stood := { row := fnExactStoodByRow, standIns := [], harness := (true, "d2e325f2245a79fd8f6e9c5358e79e3c494893115a323555035d47cfeceedd4e"), looks := true }, kinds := [], alts := [], laidByText := true, laidKinds := [.handle, .sentinel], laidTests := true, laidLooks := .later }
def FnExactStoodByCardSaid : Prop := Claim7.holds Tryz.pinned (.plain (OpenSpec.ofChange fnExactStoodBySpec)) fnExactStoodByCard

/-- THE TIED CARD OF 'laws.FnExactSodRight'. -/
def fnExactSodRightCard : Claim7 := { stood := { row := fnExactSodRightRow, standIns := [], harness := (true, "d2e325f2245a79fd8f6e9c5358e79e3c494893115a323555035d47cfeceedd4e"), looks := true }, kinds := [], alts := [], laidByText := true, laidKinds := [.handle, .sentinel], laidTests := true, laidLooks := .later }
def FnExactSodRightCardSaid : Prop := Claim7.holds Tryz.pinned (.plain (OpenSpec.ofChange fnExactSodRightSpec)) fnExactSodRightCard

/-- THE TIED CARD OF 'laws.FnExactForkRight'. -/
def fnExactForkRightCard : Claim7 := { stood := { row := fnExactForkRightRow, standIns := [], harness := (true, "d2e325f2245a79fd8f6e9c5358e79e3c494893115a323555035d47cfeceedd4e"), looks := true }, kinds := [], alts := [], laidByText := true, laidKinds := [.handle, .sentinel], laidTests := true, laidLooks := .later }
def FnExactForkRightCardSaid : Prop := Claim7.holds Tryz.pinned (.plain (OpenSpec.ofChange fnExactForkRightSpec)) fnExactForkRightCard

/-- THE TIED CARD OF 'laws.FnExactPolicyRight'. -/
def fnExactPolicyRightCard : Claim7 := { stood := { row := fnExactPolicyRightRow, standIns := [], harness := (true, "d2e325f2245a79fd8f6e9c5358e79e3c494893115a323555035d47cfeceedd4e"), looks := true }, kinds := [], alts := [], laidByText := true, laidKinds := [.handle, .sentinel], laidTests := true, laidLooks := .later }
def FnExactPolicyRightCardSaid : Prop := Claim7.holds Tryz.pinned (.plain (OpenSpec.ofChange fnExactPolicyRightSpec)) fnExactPolicyRightCard

/-- THE TIED CARD OF 'laws.FnExactStoodRight'. -/
def fnExactStoodRightCard : Claim7 := { stood := { row := fnExactStoodRightRow, standIns := [], harness := (true, "d2e325f2245a79fd8f6e9c5358e79e3c494893115a323555035d47cfeceedd4e"), looks := true }, kinds := [], alts := [], laidByText := true, laidKinds := [.handle, .sentinel], laidTests := true, laidLooks := .later }
def FnExactStoodRightCardSaid : Prop := Claim7.holds Tryz.pinned (.plain (OpenSpec.ofChange fnExactStoodRightSpec)) fnExactStoodRightCard

/-- THE TIED CARD OF 'laws.FnExactConfigIn'. -/
def fnExactConfigInCard : Claim7 := { stood := { row := fnExactConfigInRow, standIns := [], harness := (true, "d2e325f2245a79fd8f6e9c5358e79e3c494893115a323555035d47cfeceedd4e"), looks := true }, kinds := [], alts := [], laidByText := true, laidKinds := [.handle, .sentinel], laidTests := true, laidLooks := .later }
def FnExactConfigInCardSaid : Prop := Claim7.holds Tryz.pinned (.plain (OpenSpec.ofChange fnExactConfigInSpec)) fnExactConfigInCard

/-- THE SECOND FORM's CARD OF 'laws.FnExactClusterFault'. -/
def fnExactClusterFaultUptoCard : Claim7 := { stood := { row := fnExactClusterFaultUptoRow, standIns := [], harness := (true, "d2e325f2245a79fd8f6e9c5358e79e3c494893115a323555035d47cfeceedd4e"), looks := true }, kinds := [], alts := [], laidByText := true, laidKinds := [.handle, .sentinel], laidTests := true, laidLooks := .later }
def FnExactClusterFaultUptoCardSaid : Prop := Claim7.holds Tryz.pinned (.plain (OpenSpec.upto fnExactClusterFaultSpec)) fnExactClusterFaultUptoCard

/-- THE SECOND FORM's CARD OF 'laws.FnExactSignedOf'. -/
def fnExactSignedOfUptoCard : Claim7 := { stood := { row := fnExactSignedOfUptoRow, standIns := [], harness := (true, "d2e325f2245a79fd8f6e9c5358e79e3c494893115a323555035d47cfeceedd4e"), looks := true }, kinds := [], alts := [], laidByText := true, laidKinds := [.handle, .sentinel], laidTests := true, laidLooks := .later }
def FnExactSignedOfUptoCardSaid : Prop := Claim7.holds Tryz.pinned (.plain (OpenSpec.upto fnExactSignedOfSpec)) fnExactSignedOfUptoCard

/-- THE SECOND FORM's CARD OF 'laws.FnExactStoodBy'. -/
def fnExactStoodByUptoCard : Claim7 := { stood := { row := fnExactStoodByUptoRow, standIns := [], harness := (true, "d2e325f2245a79fd8f6e9c5358e79e3c494893115a323555035d47cfeceedd4e"), looks := true }, kinds := [], alts := [], laidByText := true, laidKinds := [.handle, .sentinel], laidTests := true, laidLooks := .later }
def FnExactStoodByUptoCardSaid : Prop := Claim7.holds Tryz.pinned (.plain (OpenSpec.upto fnExactStoodBySpec)) fnExactStoodByUptoCard

/-- THE SECOND FORM's CARD OF 'laws.FnExactSodRight'. -/
def fnExactSodRightUptoCard : Claim7 := { stood := { row := fnExactSodRightUptoRow, standIns := [], harness := (true, "d2e325f2245a79fd8f6e9c5358e79e3c494893115a323555035d47cfeceedd4e"), looks := true }, kinds := [], alts := [], laidByText := true, laidKinds := [.handle, .sentinel], laidTests := true, laidLooks := .later }
def FnExactSodRightUptoCardSaid : Prop := Claim7.holds Tryz.pinned (.plain (OpenSpec.upto fnExactSodRightSpec)) fnExactSodRightUptoCard

/-- THE SECOND FORM's CARD OF 'laws.FnExactForkRight'. -/
def fnExactForkRightUptoCard : Claim7 := { stood := { row := fnExactForkRightUptoRow, standIns := [], harness := (true, "d2e325f2245a79fd8f6e9c5358e79e3c494893115a323555035d47cfeceedd4e"), looks := true }, kinds := [], alts := [], laidByText := true, laidKinds := [.handle, .sentinel], laidTests := true, laidLooks := .later }
def FnExactForkRightUptoCardSaid : Prop := Claim7.holds Tryz.pinned (.plain (OpenSpec.upto fnExactForkRightSpec)) fnExactForkRightUptoCard

/-- THE SECOND FORM's CARD OF 'laws.FnExactPolicyRight'. -/
def fnExactPolicyRightUptoCard : Claim7 := { stood := { row := fnExactPolicyRightUptoRow, standIns := [], harness := (true, "d2e325f2245a79fd8f6e9c5358e79e3c494893115a323555035d47cfeceedd4e"), looks := true }, kinds := [], alts := [], laidByText := true, laidKinds := [.handle, .sentinel], laidTests := true, laidLooks := .later }
def FnExactPolicyRightUptoCardSaid : Prop := Claim7.holds Tryz.pinned (.plain (OpenSpec.upto fnExactPolicyRightSpec)) fnExactPolicyRightUptoCard

/-- THE SECOND FORM's CARD OF 'laws.FnExactStoodRight'. -/
def fnExactStoodRightUptoCard : Claim7 := { stood := { row := fnExactStoodRightUptoRow, standIns := [], harness := (true, "d2e325f2245a79fd8f6e9c5358e79e3c494893115a323555035d47cfeceedd4e"), looks := true }, kinds := [], alts := [], laidByText := true, laidKinds := [.handle, .sentinel], laidTests := true, laidLooks := .later }
def FnExactStoodRightUptoCardSaid : Prop := Claim7.holds Tryz.pinned (.plain (OpenSpec.upto fnExactStoodRightSpec)) fnExactStoodRightUptoCard

/-- THE SECOND FORM's CARD OF 'laws.FnExactConfigIn'. -/
def fnExactConfigInUptoCard : Claim7 := { stood := { row := fnExactConfigInUptoRow, standIns := [], harness := (true, "d2e325f2245a79fd8f6e9c5358e79e3c494893115a323555035d47cfeceedd4e"), looks := true }, kinds := [], alts := [], laidByText := true, laidKinds := [.handle, .sentinel], laidTests := true, laidLooks := .later }
def FnExactConfigInUptoCardSaid : Prop := Claim7.holds Tryz.pinned (.plain (OpenSpec.upto fnExactConfigInSpec)) fnExactConfigInUptoCard
end Rows
end Go.Proofs.YtdghpccmdnnenaaGreatDoor
