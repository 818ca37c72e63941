/-
  DERIVED. GIVEN WITH THE SEED: THE CARDS: each row of YtdppdbihhlipeaaGreatDoorRows.lean that lists a variable, with what it lists TIED to the program's text (the seventh form; the later family's looks); each row that meets fmt, with fmt's text TOLD by the authors' own Lean function (tested against real Go, not proved from fmt's source: count such statements apart). THE CARD IS WHAT COUNTS. Prove the row's statement (the work); the ties are given (YtdppdbihhlipeaaGreatDoorTie.lean); close each card by the builder's one call (the guide's Derived/Test/ToyasCard.lean, 'card_holds'). Laid BY PROGRAM, IN A SANDBOX (cutbox-door.mjs). By AI agents, Wed Nov 11 2026. No macro, syntax, notation, axiom, sorry.
-/
import Derived.Test.YtdppdbihhlipeaaGreatDoorRows
import GoSem.ClaimSeven
namespace Go.Proofs.YtdppdbihhlipeaaGreatDoor
namespace Rows

/-- THE TIED CARD OF 'laws.FnExactLogOf'. -/
def fnExactLogOfCard : Claim7 := { stood := { row := fnExactLogOfRow, standIns := [], harness := (true, "f2de0c6b7cf00c4bf5d98c944d4ae57842f591f0e4a4994c266c6e00becd9294"), looks := true }, kinds := [], alts := [], laidByText := true, laidKinds := [.handle, .sentinel], laidTests := true, laidLooks := .later }
def FnExactLogOfCardSaid : Prop := Claim7.holds Tryz.pinned (.plain (OpenSpec.ofChange fnExactLogOfSpec)) fnExactLogOfCard

/-- THE TIED CARD OF 'laws.FnExactRecoverReplica'. -/
def fnExactRecoverReplicaCard : Claim7 := { stood := { row := fnExactRecoverReplicaRow, standIns := [], harness := (true, "f2de0c6b7cf00c4bf5d98c944d4ae57842f591f0e4a4994c266c6e00becd9294"), looks := true }, kinds := [], alts := [], laidByText := true, laidKinds := [.handle, .sentinel, .sentinel], laidTests := true, laidLooks := .later }
def FnExactRecoverReplicaCardSaid : Prop := Claim7.holds Tryz.pinned (.plain (OpenSpec.ofChange fnExactRecoverReplicaSpec)) fnExactRecoverReplicaCard

/-- THE SECOND FORM's CARD OF 'laws.FnExactLogOf'. -/
def fnExactLogOfUptoCard : Claim7 := { stood := { row := fnExactLogOfUptoRow, standIns := [], harness := (true, "f2de0c6b7cf00c4bf5d98c944d4ae57842f591f0e4a4994c266c6e00becd9294"), looks := true }, kinds := [], alts := [], laidByText := true, laidKinds := [.handle, .sentinel], laidTests := true, laidLooks := .later }
def FnExactLogOfUptoCardSaid : Prop := Claim7.holds Tryz.pinned (.plain (OpenSpec.upto fnExactLogOfSpec)) fnExactLogOfUptoCard

/-- THE SECOND FORM's CARD OF 'laws.FnExactRecoverReplica'. -/
def fnExactRecoverReplicaUptoCard : Claim7 := { stood := { row := fnExactRecoverReplicaUptoRow, standIns := [], harness := (true, "f2de0c6b7cf00c4bf5d98c944d4ae57842f591f0e4a4994c266c6e00becd9294"), looks := true }, kinds := [], alts := [], laidByText := true, laidKinds := [.handle, .sentinel, .sentinel], laidTests := true, laidLooks := .later }
def FnExactRecoverReplicaUptoCardSaid : Prop := Claim7.holds Tryz.pinned (.plain (OpenSpec.upto fnExactRecoverReplicaSpec)) fnExactRecoverReplicaUptoCard
end Rows
end Go.Proofs.YtdppdbihhlipeaaGreatDoor
