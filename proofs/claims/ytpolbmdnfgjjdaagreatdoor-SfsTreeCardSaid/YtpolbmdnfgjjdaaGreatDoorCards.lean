/-
  DERIVED. GIVEN WITH THE SEED: THE CARDS: each row of YtpolbmdnfgjjdaaGreatDoorRows.lean that lists a variable, with what it lists TIED to the program's text (the seventh form; the later family's looks); each row that meets fmt, with fmt's text TOLD by the authors' own Lean function (tested against real Go, not proved from fmt's source: count such statements apart). THE CARD IS WHAT COUNTS. Prove the row's statement (the work); the ties are given (YtpolbmdnfgjjdaaGreatDoorTie.lean); close each card by the builder's one call (the guide's Derived/Test/ToyasCard.lean, 'card_holds'). Laid BY PROGRAM, IN A SANDBOX (cutbox-door.mjs). By AI agents, Wed Nov 11 2026. No macro, syntax, notation, axiom, sorry.
-/
import Derived.Test.YtpolbmdnfgjjdaaGreatDoorRows
import GoSem.ClaimSeven
namespace Go.Proofs.YtpolbmdnfgjjdaaGreatDoor
namespace Rows

/-- THE TIED CARD OF 'flotsamlaw11.SfsPlays'. -/
def sfsPlaysCard : Claim7 := { stood := { row := sfsPlaysRow, standIns := [], harness := (true, "7a8605c5c6bb101dbbf7e42472ac52a773511393dca0c3bf8afee87a088c7357"), looks := false }, kinds := [], alts := [], laidByText := true, laidKinds := [.data, .pinned], laidTests := true, laidLooks := .later }
def SfsPlaysCardSaid : Prop := Claim7.holds Tryz.pinned (.plain (OpenSpec.ofChange sfsPlaysSpec)) sfsPlaysCard

/-- THE TIED CARD OF 'flotsamlaw11.SfsTree'. -/
def sfsTreeCard : Claim7 := { stood := { row := sfsTreeRow, standIns := [], harness := (true, "7a8605c5c6bb101dbbf7e42472ac52a773511393dca0c3bf8afee87a088c7357"), looks := false }, kinds := [], alts := [], laidByText := true, laidKinds := [.data, .pinned], laidTests := true, laidLooks := .later }
def SfsTreeCardSaid : Prop := Claim7.holds Tryz.pinned (.plain (OpenSpec.ofChange sfsTreeSpec)) sfsTreeCard

/-- THE TIED CARD OF 'flotsamlaw11.SfsRenames'. -/
def sfsRenamesCard : Claim7 := { stood := { row := sfsRenamesRow, standIns := [], harness := (true, "7a8605c5c6bb101dbbf7e42472ac52a773511393dca0c3bf8afee87a088c7357"), looks := false }, kinds := [], alts := [], laidByText := true, laidKinds := [.data, .pinned], laidTests := true, laidLooks := .later }
def SfsRenamesCardSaid : Prop := Claim7.holds Tryz.pinned (.plain (OpenSpec.ofChange sfsRenamesSpec)) sfsRenamesCard

/-- THE SECOND FORM's CARD OF 'flotsamlaw11.SfsPlays'. -/
def sfsPlaysUptoCard : Claim7 := { stood := { row := sfsPlaysUptoRow, standIns := [], harness := (true, "7a8605c5c6bb101dbbf7e42472ac52a773511393dca0c3bf8afee87a088c7357"), looks := false }, kinds := [], alts := [], laidByText := true, laidKinds := [.data, .pinned], laidTests := true, laidLooks := .later }
def SfsPlaysUptoCardSaid : Prop := Claim7.holds Tryz.pinned (.plain (OpenSpec.upto sfsPlaysSpec)) sfsPlaysUptoCard

/-- THE SECOND FORM's CARD OF 'flotsamlaw11.SfsTree'. -/
def sfsTreeUptoCard : Claim7 := { stood := { row := sfsTreeUptoRow, standIns := [], harness := (true, "7a8605c5c6bb101dbbf7e42472ac52a773511393dca0c3bf8afee87a088c7357"), looks := false }, kinds := [], alts := [], laidByText := true, laidKinds := [.data, .pinned], laidTests := true, laidLooks := .later }
def SfsTreeUptoCardSaid : Prop := Claim7.holds Tryz.pinned (.plain (OpenSpec.upto sfsTreeSpec)) sfsTreeUptoCard

/-- THE SECOND FORM's CARD OF 'flotsamlaw11.SfsRenames'. -/
def sfsRenamesUptoCard : Claim7 := { stood := { row := sfsRenamesUptoRow, standIns := [], harness := (true, "7a8605c5c6bb101dbbf7e42472ac52a773511393dca0c3bf8afee87a088c7357"), looks := false }, kinds := [], alts := [], laidByText := true, laidKinds := [.data, .pinned], laidTests := true, laidLooks := .later }
def SfsRenamesUptoCardSaid : Prop := Claim7.holds Tryz.pinned (.plain (OpenSpec.upto sfsRenamesSpec)) sfsRenamesUptoCard
end Rows
end Go.Proofs.YtpolbmdnfgjjdaaGreatDoor
