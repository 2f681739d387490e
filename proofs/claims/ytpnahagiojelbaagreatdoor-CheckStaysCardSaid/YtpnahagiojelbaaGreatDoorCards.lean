/-
  DERIVED. GIVEN WITH THE SEED: THE CARDS: each row of YtpnahagiojelbaaGreatDoorRows.lean that lists a variable, with what it lists TIED to the program's text (the seventh form; the later family's looks); each row that meets fmt, with fmt's text TOLD by the authors' own Lean function (tested against real Go, not proved from fmt's source: count such statements apart). THE CARD IS WHAT COUNTS. Prove the row's statement (the work); the ties are given (YtpnahagiojelbaaGreatDoorTie.lean); close each card by the builder's one call (the guide's Derived/Test/ToyasCard.lean, 'card_holds'). Laid BY PROGRAM, IN A SANDBOX (cutbox-door.mjs). By AI agents, Wed Nov 11 2026. No macro, syntax, notation, axiom, sorry.
-/
import Derived.Test.YtpnahagiojelbaaGreatDoorRows
import GoSem.ClaimSeven
namespace Go.Proofs.YtpnahagiojelbaaGreatDoor
namespace Rows

/-- THE TIED CARD OF 'flotsamlaw12.FlushKeeps'. -/
def flushKeepsCard : Claim7 := { stood := { row := flushKeepsRow, standIns := [], harness := (true, "1c6a812f2c7a66aeeb18427d9bc4158ab04e1289c89893a3eb28db2d41269264"), looks := false }, kinds := [], alts := [], laidByText := true, laidKinds := [.data, .pinned], laidTests := true, laidLooks := .later }
def FlushKeepsCardSaid : Prop := Claim7.holds Tryz.pinned (.plain (OpenSpec.ofChange flushKeepsSpec)) flushKeepsCard

/-- THE TIED CARD OF 'flotsamlaw13.CheckStays'. -/
def checkStaysCard : Claim7 := { stood := { row := checkStaysRow, standIns := [], harness := (true, "1c6a812f2c7a66aeeb18427d9bc4158ab04e1289c89893a3eb28db2d41269264"), looks := false }, kinds := [], alts := [], laidByText := true, laidKinds := [.data, .pinned], laidTests := true, laidLooks := .later }
def CheckStaysCardSaid : Prop := Claim7.holds Tryz.pinned (.plain (OpenSpec.ofChange checkStaysSpec)) checkStaysCard

/-- THE SECOND FORM's CARD OF 'flotsamlaw12.FlushKeeps'. -/
def flushKeepsUptoCard : Claim7 := { stood := { row := flushKeepsUptoRow, standIns := [], harness := (true, "1c6a812f2c7a66aeeb18427d9bc4158ab04e1289c89893a3eb28db2d41269264"), looks := false }, kinds := [], alts := [], laidByText := true, laidKinds := [.data, .pinned], laidTests := true, laidLooks := .later }
def FlushKeepsUptoCardSaid : Prop := Claim7.holds Tryz.pinned (.plain (OpenSpec.upto flushKeepsSpec)) flushKeepsUptoCard

/-- THE SECOND FORM's CARD OF 'flotsamlaw13.CheckStays'. -/
def checkStaysUptoCard : Claim7 := { stood := { row := checkStaysUptoRow, standIns := [], harness := (true, "1c6a812f2c7a66aeeb18427d9bc4158ab04e1289c89893a3eb28db2d41269264"), looks := false }, kinds := [], alts := [], laidByText := true, laidKinds := [.data, .pinned], laidTests := true, laidLooks := .later }
def CheckStaysUptoCardSaid : Prop := Claim7.holds Tryz.pinned (.plain (OpenSpec.upto checkStaysSpec)) checkStaysUptoCard
end Rows
end Go.Proofs.YtpnahagiojelbaaGreatDoor
