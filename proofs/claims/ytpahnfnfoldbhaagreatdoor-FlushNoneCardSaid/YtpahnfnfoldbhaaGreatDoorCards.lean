/-
  DERIVED. GIVEN WITH THE SEED: THE CARDS: each row of YtpahnfnfoldbhaaGreatDoorRows.lean that lists a variable, with what it lists TIED to the program's text (the seventh form; the later family's looks); each row that meets fmt, with fmt's text TOLD by the authors' own Lean function (tested against real Go, not proved from fmt's source: count such statements apart). THE CARD IS WHAT COUNTS. Prove the row's statement (the work); the ties are given (YtpahnfnfoldbhaaGreatDoorTie.lean); close each card by the builder's one call (the guide's Derived/Test/ToyasCard.lean, 'card_holds'). Laid BY PROGRAM, IN A SANDBOX (cutbox-door.mjs). By AI agents, Wed Nov 11 2026. No macro, syntax, notation, axiom, sorry.
-/
import Derived.Test.YtpahnfnfoldbhaaGreatDoorRows
import GoSem.ClaimSeven
namespace Go.Proofs.YtpahnfnfoldbhaaGreatDoor
namespace Rows

/-- THE TIED CARD OF 'flotsamlaw11.SfsPlays'. -/
def sfsPlaysCard : Claim7 := { stood := { row := sfsPlaysRow, standIns := [], harness := (true, "e08e2f71dc2504f1ab0b1c24268218091e03ee10aaf6d5102d064d167181d6bb"), looks := false }, kinds := [], alts := [], laidByText := true, laidKinds := [.data, .pinned], laidTests := true, laidLooks := .later }
def SfsPlaysCardSaid : Prop := Claim7.holds Tryz.pinned (.plain (OpenSpec.ofChange sfsPlaysSpec)) sfsPlaysCard

/-- THE TIED CARD OF 'flotsamlaw11.SfsRenames'. -/
def sfsRenamesCard : Claim7 := { stood := { row := sfsRenamesRow, standIns := [], harness := (true, "e08e2f71dc2504f1ab0b1c24268218091e03ee10aaf6d5102d064d167181d6bb"), looks := false }, kinds := [], alts := [], laidByText := true, laidKinds := [.data, .pinned], laidTests := true, laidLooks := .later }
def SfsRenamesCardSaid : Prop := Claim7.holds Tryz.pinned (.plain (OpenSpec.ofChange sfsRenamesSpec)) sfsRenamesCard

/-- THE TIED CARD OF 'flotsamlaw12.FlushPlays'. -/
def flushPlaysCard : Claim7 := { stood := { row := flushPlaysRow, standIns := [], harness := (true, "e08e2f71dc2504f1ab0b1c24268218091e03ee10aaf6d5102d064d167181d6bb"), looks := false }, kinds := [], alts := [], laidByText := true, laidKinds := [.data, .pinned], laidTests := true, laidLooks := .later }
def FlushPlaysCardSaid : Prop := Claim7.holds Tryz.pinned (.plain (OpenSpec.ofChange flushPlaysSpec)) flushPlaysCard

/-- THE TIED CARD OF 'flotsamlaw12.FlushNone'. -/
def flushNoneCard : Claim7 := { stood := { row := flushNoneRow, standIns := [], harness := (true, "e08e2f71dc2504f1ab0b1c24268218091e03ee10aaf6d5102d064d167181d6bb"), looks := false }, kinds := [], alts := [], laidByText := true, laidKinds := [.data, .pinned], laidTests := true, laidLooks := .later }
def FlushNoneCardSaid : Prop := Claim7.holds Tryz.pinned (.plain (OpenSpec.ofChange flushNoneSpec)) flushNoneCard

/-- THE TIED CARD OF 'flotsamlaw12.FlushKeeps'. -/
def flushKeepsCard : Claim7 := { stood := { row := flushKeepsRow, standIns := [], harness := (true, "e08e2f71dc2504f1ab0b1c24268218091e03ee10aaf6d5102d064d167181d6bb"), looks := false }, kinds := [], alts := [], laidByText := true, laidKinds := [.data, .pinned], laidTests := true, laidLooks := .later }
def FlushKeepsCardSaid : Prop := Claim7.holds Tryz.pinned (.plain (OpenSpec.ofChange flushKeepsSpec)) flushKeepsCard

/-- THE SECOND FORM's CARD OF 'flotsamlaw11.SfsPlays'. -/
def sfsPlaysUptoCard : Claim7 := { stood := { row := sfsPlaysUptoRow, standIns := [], harness := (true, "e08e2f71dc2504f1ab0b1c24268218091e03ee10aaf6d5102d064d167181d6bb"), looks := false }, kinds := [], alts := [], laidByText := true, laidKinds := [.data, .pinned], laidTests := true, laidLooks := .later }
def SfsPlaysUptoCardSaid : Prop := Claim7.holds Tryz.pinned (.plain (OpenSpec.upto sfsPlaysSpec)) sfsPlaysUptoCard

/-- THE SECOND FORM's CARD OF 'flotsamlaw11.SfsRenames'. -/
def sfsRenamesUptoCard : Claim7 := { stood := { row := sfsRenamesUptoRow, standIns := [], harness := (true, "e08e2f71dc2504f1ab0b1c24268218091e03ee10aaf6d5102d064d167181d6bb"), looks := false }, kinds := [], alts := [], laidByText := true, laidKinds := [.data, .pinned], laidTests := true, laidLooks := .later }
def SfsRenamesUptoCardSaid : Prop := Claim7.holds Tryz.pinned (.plain (OpenSpec.upto sfsRenamesSpec)) sfsRenamesUptoCard

/-- THE SECOND FORM's CARD OF 'flotsamlaw12.FlushPlays'. -/
def flushPlaysUptoCard : Claim7 := { stood := { row := flushPlaysUptoRow, standIns := [], harness := (true, "e08e2f71dc2504f1ab0b1c24268218091e03ee10aaf6d5102d064d167181d6bb"), looks := false }, kinds := [], alts := [], laidByText := true, laidKinds := [.data, .pinned], laidTests := true, laidLooks := .later }
def FlushPlaysUptoCardSaid : Prop := Claim7.holds Tryz.pinned (.plain (OpenSpec.upto flushPlaysSpec)) flushPlaysUptoCard

/-- THE SECOND FORM's CARD OF 'flotsamlaw12.FlushNone'. -/
def flushNoneUptoCard : Claim7 := { stood := { row := flushNoneUptoRow, standIns := [], harness := (true, "e08e2f71dc2504f1ab0b1c24268218091e03ee10aaf6d5102d064d167181d6bb"), looks := false }, kinds := [], alts := [], laidByText := true, laidKinds := [.data, .pinned], laidTests := true, laidLooks := .later }
def FlushNoneUptoCardSaid : Prop := Claim7.holds Tryz.pinned (.plain (OpenSpec.upto flushNoneSpec)) flushNoneUptoCard

/-- THE SECOND FORM's CARD OF 'flotsamlaw12.FlushKeeps'. -/
def flushKeepsUptoCard : Claim7 := { stood := { row := flushKeepsUptoRow, standIns := [], harness := (true, "e08e2f71dc2504f1ab0b1c24268218091e03ee10aaf6d5102d064d167181d6bb"), looks := false }, kinds := [], alts := [], laidByText := true, laidKinds := [.data, .pinned], laidTests := true, laidLooks := .later }
def FlushKeepsUptoCardSaid : Prop := Claim7.holds Tryz.pinned (.plain (OpenSpec.upto flushKeepsSpec)) flushKeepsUptoCard
end Rows
end Go.Proofs.YtpahnfnfoldbhaaGreatDoor
