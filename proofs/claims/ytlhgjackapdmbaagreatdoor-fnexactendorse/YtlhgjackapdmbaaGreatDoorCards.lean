/-
  DERIVED. GIVEN WITH THE SEED: THE CARDS: each row of YtlhgjackapdmbaaGreatDoorRows.lean that lists a variable, with what it lists TIED to the program's text (the seventh form; the later family's looks); each row that meets fmt, with fmt's text TOLD by the authors' own Lean function (tested against real Go, not proved from fmt's source: count such statements apart). THE CARD IS WHAT COUNTS. Prove the row's statement (the work); the ties are given (YtlhgjackapdmbaaGreatDoorTie.lean); close each card by the builder's one call (the guide's Derived/Test/ToyasCard.lean, 'card_holds'). Laid BY PROGRAM, IN A SANDBOX (cutbox-door.mjs). By AI agents, Wed Nov 11 2026. No macro, syntax, notation, axiom, sorry.
-/
import Derived.Test.YtlhgjackapdmbaaGreatDoorRows
import GoSem.ClaimSeven
namespace Go.Proofs.YtlhgjackapdmbaaGreatDoor
namespace Rows

/-- THE TIED CARD OF 'laws.FnExactReplicaFault'. -/
def fnExactReplicaFaultCard : Claim7 := { stood := { row := fnExactReplicaFaultRow, standIns := [], harness := (true, "8161c2d9ed77c578833c1d7ef237f225ff3159d90848846a858cf232b3b4ff6e"), looks := true }, kinds := [], alts := [], laidByText := true, laidKinds := [.handle, .sentinel], laidTests := true, laidLooks := .later }
def FnExactReplicaFaultCardSaid : Prop := Claim7.holds Tryz.pinned (.plain (OpenSpec.ofChange fnExactReplicaFaultSpec)) fnExactReplicaFaultCard

/-- THE TIED CARD OF 'laws.FnExactMayEndorse'. -/
def fnExactMayEndorseCard : Claim7 := { stood := { row := fnExactMayEndorseRow, standIns := [], harness := (true, "8161c2d9ed77c578833c1d7ef237f225ff3159d90848846a858cf232b3b4ff6e"), looks := true }, kinds := [], alts := [], laidByText := true, laidKinds := [.handle, .sentinel], laidTests := true, laidLooks := .later }
def FnExactMayEndorseCardSaid : Prop := Claim7.holds Tryz.pinned (.plain (OpenSpec.ofChange fnExactMayEndorseSpec)) fnExactMayEndorseCard

/-- THE TIED CARD OF 'laws.FnExactSyncReplica'. -/
def fnExactSyncReplicaCard : Claim7 := { stood := { row := fnExactSyncReplicaRow, standIns := [], harness := (true, "8161c2d9ed77c578833c1d7ef237f225ff3159d90848846a858cf232b3b4ff6e"), looks := true }, kinds := [], alts := [], laidByText := true, laidKinds := [.handle, .sentinel], laidTests := true, laidLooks := .later }
def FnExactSyncReplicaCardSaid : Prop := Claim7.holds Tryz.pinned (.plain (OpenSpec.ofChange fnExactSyncReplicaSpec)) fnExactSyncReplicaCard

/-- THE TIED CARD OF 'laws.FnExactEndorse'. -/
def fnExactEndorseCard : Claim7 := { stood := { row := fnExactEndorseRow, standIns := [], harness := (true, "8161c2d9ed77c578833c1d7ef237f225ff3159d90848846a858cf232b3b4ff6e"), looks := true }, kinds := [], alts := [], laidByText := true, laidKinds := [.handle, .sentinel], laidTests := true, laidLooks := .later }
def FnExactEndorseCardSaid : Prop := Claim7.holds Tryz.pinned (.plain (OpenSpec.ofChange fnExactEndorseSpec)) fnExactEndorseCard

/-- THE TIED CARD OF 'laws.FnExactCrashReplica'. -/
def fnExactCrashReplicaCard : Claim7 := { stood := { row := fnExactCrashReplicaRow, standIns := [], harness := (true, "8161c2d9ed77c578833c1d7ef237f225ff3159d90848846a858cf232b3b4ff6e"), looks := true }, kinds := [], alts := [], laidByText := true, laidKinds := [.handle, .sentinel], laidTests := true, laidLooks := .later }
def FnExactCrashReplicaCardSaid : Prop := Claim7.holds Tryz.pinned (.plain (OpenSpec.ofChange fnExactCrashReplicaSpec)) fnExactCrashReplicaCard

/-- THE SECOND FORM's CARD OF 'laws.FnExactReplicaFault'. -/
def fnExactReplicaFaultUptoCard : Claim7 := { stood := { row := fnExactReplicaFaultUptoRow, standIns := [], harness := (true, "8161c2d9ed77c578833c1d7ef237f225ff3159d90848846a858cf232b3b4ff6e"), looks := true }, kinds := [], alts := [], laidByText := true, laidKinds := [.handle, .sentinel], laidTests := true, laidLooks := .later }
def FnExactReplicaFaultUptoCardSaid : Prop := Claim7.holds Tryz.pinned (.plain (OpenSpec.upto fnExactReplicaFaultSpec)) fnExactReplicaFaultUptoCard

/-- THE SECOND FORM's CARD OF 'laws.FnExactMayEndorse'. -/
def fnExactMayEndorseUptoCard : Claim7 := { stood := { row := fnExactMayEndorseUptoRow, standIns := [], harness := (true, "8161c2d9ed77c578833c1d7ef237f225ff3159d90848846a858cf232b3b4ff6e"), looks := true }, kinds := [], alts := [], laidByText := true, laidKinds := [.handle, .sentinel], laidTests := true, laidLooks := .later }
def FnExactMayEndorseUptoCardSaid : Prop := Claim7.holds Tryz.pinned (.plain (OpenSpec.upto fnExactMayEndorseSpec)) fnExactMayEndorseUptoCard

/-- THE SECOND FORM's CARD OF 'laws.FnExactSyncReplica'. -/
def fnExactSyncReplicaUptoCard : Claim7 := { stood := { row := fnExactSyncReplicaUptoRow, standIns := [], harness := (true, "8161c2d9ed77c578833c1d7ef237f225ff3159d90848846a858cf232b3b4ff6e"), looks := true }, kinds := [], alts := [], laidByText := true, laidKinds := [.handle, .sentinel], laidTests := true, laidLooks := .later }
def FnExactSyncReplicaUptoCardSaid : Prop := Claim7.holds Tryz.pinned (.plain (OpenSpec.upto fnExactSyncReplicaSpec)) fnExactSyncReplicaUptoCard

/-- THE SECOND FORM's CARD OF 'laws.FnExactEndorse'. -/
def fnExactEndorseUptoCard : Claim7 := { stood := { row := fnExactEndorseUptoRow, standIns := [], harness := (true, "8161c2d9ed77c578833c1d7ef237f225ff3159d90848846a858cf232b3b4ff6e"), looks := true }, kinds := [], alts := [], laidByText := true, laidKinds := [.handle, .sentinel], laidTests := true, laidLooks := .later }
def FnExactEndorseUptoCardSaid : Prop := Claim7.holds Tryz.pinned (.plain (OpenSpec.upto fnExactEndorseSpec)) fnExactEndorseUptoCard

/-- THE SECOND FORM's CARD OF 'laws.FnExactCrashReplica'. -/
def fnExactCrashReplicaUptoCard : Claim7 := { stood := { row := fnExactCrashReplicaUptoRow, standIns := [], harness := (true, "8161c2d9ed77c578833c1d7ef237f225ff3159d90848846a858cf232b3b4ff6e"), looks := true }, kinds := [], alts := [], laidByText := true, laidKinds := [.handle, .sentinel], laidTests := true, laidLooks := .later }
def FnExactCrashReplicaUptoCardSaid : Prop := Claim7.holds Tryz.pinned (.plain (OpenSpec.upto fnExactCrashReplicaSpec)) fnExactCrashReplicaUptoCard
end Rows
end Go.Proofs.YtlhgjackapdmbaaGreatDoor
