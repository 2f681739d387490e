/-
  DERIVED. GIVEN WITH THE SEED: THE CARDS: each row of YtiaapfijbidgnaaGreatDoorRows.lean that lists a variable, with what it lists TIED to the program's text (the seventh form; the later family's looks); each row that meets fmt, with fmt's text TOLD by the authors' own Lean function (tested against real Go, not proved from fmt's source: count such statements apart). THE CARD IS WHAT COUNTS. Prove the row's statement (the work); the ties are given (YtiaapfijbidgnaaGreatDoorTie.lean); close each card by the builder's one call (the guide's Derived/Test/ToyasCard.lean, 'card_holds'). Laid BY PROGRAM, IN A SANDBOX (cutbox-door.mjs). By AI agents, Wed Nov 11 2026. No macro, syntax, notation, axiom, sorry.
-/
import Derived.Test.YtiaapfijbidgnaaGreatDoorRows
import GoSem.ClaimSeven
namespace Go.Proofs.YtiaapfijbidgnaaGreatDoor
namespace Rows

/-- THE TIED CARD OF 'flotsamlaw11.SfsPlays'. -/
def sfsPlaysCard : Claim7 := { stood := { row := sfsPlaysRow, standIns := [], harness := (true, "d19bc68d8c7283ed1e705acc3ede0cb814afeee00dd16650f7b82e8a127adcb5"), looks := false }, kinds := [], alts := [], laidByText := true, laidKinds := [.data, .pinned], laidTests := true, laidLooks := .later }
def SfsPlaysCardSaid : Prop := Claim7.holds Tryz.pinned (.plain (OpenSpec.ofChange sfsPlaysSpec)) sfsPlaysCard

/-- THE TIED CARD OF 'flotsamlaw11.SfsRenames'. -/
def sfsRenamesCard : Claim7 := { stood := { row := sfsRenamesRow, standIns := [], harness := (true, "d19bc68d8c7283ed1e705acc3ede0cb814afeee00dd16650f7b82e8a127adcb5"), looks := false }, kinds := [], alts := [], laidByText := true, laidKinds := [.data, .pinned], laidTests := true, laidLooks := .later }
def SfsRenamesCardSaid : Prop := Claim7.holds Tryz.pinned (.plain (OpenSpec.ofChange sfsRenamesSpec)) sfsRenamesCard

/-- THE TIED CARD OF 'flotsamlaw12.FlushPlays'. -/
def flushPlaysCard : Claim7 := { stood := { row := flushPlaysRow, standIns := [], harness := (true, "d19bc68d8c7283ed1e705acc3ede0cb814afeee00dd16650f7b82e8a127adcb5"), looks := false }, kinds := [], alts := [], laidByText := true, laidKinds := [.data, .pinned], laidTests := true, laidLooks := .later }
def FlushPlaysCardSaid : Prop := Claim7.holds Tryz.pinned (.plain (OpenSpec.ofChange flushPlaysSpec)) flushPlaysCard

/-- THE TIED CARD OF 'flotsamlaw12.FlushKeeps'. -/
def flushKeepsCard : Claim7 := { stood := { row := flushKeepsRow, standIns := [], harness := (true, "d19bc68d8c7283ed1e705acc3ede0cb814afeee00dd16650f7b82e8a127adcb5"), looks := false }, kinds := [], alts := [], laidByText := true, laidKinds := [.data, .pinned], laidTests := true, laidLooks := .later }
def FlushKeepsCardSaid : Prop := Claim7.holds Tryz.pinned (.plain (OpenSpec.ofChange flushKeepsSpec)) flushKeepsCard

/-- THE SECOND FORM's CARD OF 'flotsamlaw11.SfsPlays'. -/
def sfsPlaysUptoCard : Claim7 := { stood := { row := sfsPlaysUptoRow, standIns := [], harness := (true, "d19bc68d8c7283ed1e705acc3ede0cb814afeee00dd16650f7b82e8a127adcb5"), looks := false }, kinds := [], alts := [], laidByText := true, laidKinds := [.data, .pinned], laidTests := true, laidLooks := .later }
def SfsPlaysUptoCardSaid : Prop := Claim7.holds Tryz.pinned (.plain (OpenSpec.upto sfsPlaysSpec)) sfsPlaysUptoCard

/-- THE SECOND FORM's CARD OF 'flotsamlaw11.SfsRenames'. -/
def sfsRenamesUptoCard : Claim7 := { stood := { row := sfsRenamesUptoRow, standIns := [], harness := (true, "d19bc68d8c7283ed1e705acc3ede0cb814afeee00dd16650f7b82e8a127adcb5"), looks := false }, kinds := [], alts := [], laidByText := true, laidKinds := [.data, .pinned], laidTests := true, laidLooks := .later }
def SfsRenamesUptoCardSaid : Prop := Claim7.holds Tryz.pinned (.plain (OpenSpec.upto sfsRenamesSpec)) sfsRenamesUptoCard

/-- THE SECOND FORM's CARD OF 'flotsamlaw12.FlushPlays'. -/
def flushPlaysUptoCard : Claim7 := { stood := { row := flushPlaysUptoRow, standIns := [], harness := (true, "d19bc68d8c7283ed1e705acc3ede0cb814afeee00dd16650f7b82e8a127adcb5"), looks := false }, kinds := [], alts := [], laidByText := true, laidKinds := [.data, .pinned], laidTests := true, laidLooks := .later }
def FlushPlaysUptoCardSaid : Prop := Claim7.holds Tryz.pinned (.plain (OpenSpec.upto flushPlaysSpec)) flushPlaysUptoCard

/-- THE SECOND FORM's CARD OF 'flotsamlaw12.FlushKeeps'. -/
def flushKeepsUptoCard : Claim7 := { stood := { row := flushKeepsUptoRow, standIns := [], harness := (true, "d19bc68d8c7283ed1e705acc3ede0cb814afeee00dd16650f7b82e8a127adcb5"), looks := false }, kinds := [], alts := [], laidByText := true, laidKinds := [.data, .pinned], laidTests := true, laidLooks := .later }
def FlushKeepsUptoCardSaid : Prop := Claim7.holds Tryz.pinned (.plain (OpenSpec.upto flushKeepsSpec)) flushKeepsUptoCard
end Rows
end Go.Proofs.YtiaapfijbidgnaaGreatDoor
