/-
  DERIVED. GIVEN WITH THE SEED: THE CARDS: each row of YtliklcopmapfaaaDoorRows.lean that lists a variable, with what it lists TIED to the program's text (the seventh form; the later family's looks); each row that meets fmt, with fmt's text TOLD by the authors' own Lean function (tested against real Go, not proved from fmt's source: count such statements apart). THE CARD IS WHAT COUNTS. Prove the row's statement (the work); the ties are given (YtliklcopmapfaaaDoorTie.lean); close each card by the builder's one call (the guide's Derived/Test/ToyasCard.lean, 'card_holds'). Laid BY PROGRAM, IN A SANDBOX (cutbox-door.mjs). By AI agents, Wed Nov 11 2026. No macro, syntax, notation, axiom, sorry.
-/
import Derived.Test.YtliklcopmapfaaaDoorRows
import GoSem.ClaimSeven
namespace Go.Proofs.YtliklcopmapfaaaDoor
namespace Rows

/-- THE TIED CARD OF 'headwordlaw09.SheetGroups'. -/
def sheetGroupsCard : Claim7 := { stood := { row := sheetGroupsRow, standIns := [], harness := (true, "cdda6fb43627a3276bd827b13e82dfd520a473c64a17ad2e9cac191a5c307bc8"), looks := false }, kinds := [], alts := [], laidByText := true, laidKinds := [.data], laidTests := true, laidLooks := .later }
def SheetGroupsCardSaid : Prop := Claim7.holds Tryd.pinned (.plain (OpenSpec.ofChange sheetGroupsSpec)) sheetGroupsCard

/-- THE TIED CARD OF 'headwordlaw09.SheetShown'. -/
def sheetShownCard : Claim7 := { stood := { row := sheetShownRow, standIns := [], harness := (true, "cdda6fb43627a3276bd827b13e82dfd520a473c64a17ad2e9cac191a5c307bc8"), looks := false }, kinds := [], alts := [], laidByText := true, laidKinds := [.data], laidTests := true, laidLooks := .later }
def SheetShownCardSaid : Prop := Claim7.holds Tryd.pinned (.plain (OpenSpec.ofChange sheetShownSpec)) sheetShownCard

/-- THE TIED CARD OF 'headwordlaw09.SheetKnown'. -/
def sheetKnownCard : Claim7 := { stood := { row := sheetKnownRow, standIns := [], harness := (true, "cdda6fb43627a3276bd827b13e82dfd520a473c64a17ad2e9cac191a5c307bc8"), looks := false }, kinds := [], alts := [], laidByText := true, laidKinds := [.data], laidTests := true, laidLooks := .later }
def SheetKnownCardSaid : Prop := Claim7.holds Tryd.pinned (.plain (OpenSpec.ofChange sheetKnownSpec)) sheetKnownCard

/-- THE SECOND FORM's CARD OF 'headwordlaw09.SheetGroups'. -/
def sheetGroupsUptoCard : Claim7 := { stood := { row := sheetGroupsUptoRow, standIns := [], harness := (true, "cdda6fb43627a3276bd827b13e82dfd520a473c64a17ad2e9cac191a5c307bc8"), looks := false }, kinds := [], alts := [], laidByText := true, laidKinds := [.data], laidTests := true, laidLooks := .later }
def SheetGroupsUptoCardSaid : Prop := Claim7.holds Tryd.pinned (.plain (OpenSpec.upto sheetGroupsSpec)) sheetGroupsUptoCard

/-- THE SECOND FORM's CARD OF 'headwordlaw09.SheetShown'. -/
def sheetShownUptoCard : Claim7 := { stood := { row := sheetShownUptoRow, standIns := [], harness := (true, "cdda6fb43627a3276bd827b13e82dfd520a473c64a17ad2e9cac191a5c307bc8"), looks := false }, kinds := [], alts := [], laidByText := true, laidKinds := [.data], laidTests := true, laidLooks := .later }
def SheetShownUptoCardSaid : Prop := Claim7.holds Tryd.pinned (.plain (OpenSpec.upto sheetShownSpec)) sheetShownUptoCard

/-- THE SECOND FORM's CARD OF 'headwordlaw09.SheetKnown'. -/
def sheetKnownUptoCard : Claim7 := { stood := { row := sheetKnownUptoRow, standIns := [], harness := (true, "cdda6fb43627a3276bd827b13e82dfd520a473c64a17ad2e9cac191a5c307bc8"), looks := false }, kinds := [], alts := [], laidByText := true, laidKinds := [.data], laidTests := true, laidLooks := .later }
def SheetKnownUptoCardSaid : Prop := Claim7.holds Tryd.pinned (.plain (OpenSpec.upto sheetKnownSpec)) sheetKnownUptoCard
end Rows
end Go.Proofs.YtliklcopmapfaaaDoor
