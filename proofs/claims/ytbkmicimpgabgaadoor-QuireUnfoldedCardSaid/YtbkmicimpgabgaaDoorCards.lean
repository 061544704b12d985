/-
  DERIVED. GIVEN WITH THE SEED: THE CARDS: each row of YtbkmicimpgabgaaDoorRows.lean that lists a variable, with what it lists TIED to the program's text (the seventh form; the later family's looks); each row that meets fmt, with fmt's text TOLD by the authors' own Lean function (tested against real Go, not proved from fmt's source: count such statements apart). THE CARD IS WHAT COUNTS. Prove the row's statement (the work); the ties are given (YtbkmicimpgabgaaDoorTie.lean); close each card by the builder's one call (the guide's Derived/Test/ToyasCard.lean, 'card_holds'). Laid BY PROGRAM, IN A SANDBOX (cutbox-door.mjs). By AI agents, Wed Nov 11 2026. No macro, syntax, notation, axiom, sorry.
-/
import Derived.Test.YtbkmicimpgabgaaDoorRows
import GoSem.ClaimSeven
namespace Go.Proofs.YtbkmicimpgabgaaDoor
namespace Rows

/-- THE TIED CARD OF 'headwordlaw03.QuireFolds'. -/
def quireFoldsCard : Claim7 := { stood := { row := quireFoldsRow, standIns := [], harness := (true, "07804c26de599672acc67e386584c211203a770fee599f7768382526ea6589be"), looks := false }, kinds := [], alts := [], laidByText := true, laidKinds := [.data, .data], laidTests := true, laidLooks := .later }
def QuireFoldsCardSaid : Prop := Claim7.holds Tryd.pinned (.plain (OpenSpec.ofChange quireFoldsSpec)) quireFoldsCard

/-- THE TIED CARD OF 'headwordlaw03.QuireCreases'. -/
def quireCreasesCard : Claim7 := { stood := { row := quireCreasesRow, standIns := [], harness := (true, "07804c26de599672acc67e386584c211203a770fee599f7768382526ea6589be"), looks := false }, kinds := [], alts := [], laidByText := true, laidKinds := [.data, .data], laidTests := true, laidLooks := .later }
def QuireCreasesCardSaid : Prop := Claim7.holds Tryd.pinned (.plain (OpenSpec.ofChange quireCreasesSpec)) quireCreasesCard

/-- THE TIED CARD OF 'headwordlaw03.QuirePiles'. -/
def quirePilesCard : Claim7 := { stood := { row := quirePilesRow, standIns := [], harness := (true, "07804c26de599672acc67e386584c211203a770fee599f7768382526ea6589be"), looks := false }, kinds := [], alts := [], laidByText := true, laidKinds := [.data, .data], laidTests := true, laidLooks := .later }
def QuirePilesCardSaid : Prop := Claim7.holds Tryd.pinned (.plain (OpenSpec.ofChange quirePilesSpec)) quirePilesCard

/-- THE TIED CARD OF 'headwordlaw03.QuireUnfolded'. -/
def quireUnfoldedCard : Claim7 := { stood := { row := quireUnfoldedRow, standIns := [], harness := (true, "07804c26de599672acc67e386584c211203a770fee599f7768382526ea6589be"), looks := false }, kinds := [], alts := [], laidByText := true, laidKinds := [.data, .data], laidTests := true, laidLooks := .later }
def QuireUnfoldedCardSaid : Prop := Claim7.holds Tryd.pinned (.plain (OpenSpec.ofChange quireUnfoldedSpec)) quireUnfoldedCard

/-- THE SECOND FORM's CARD OF 'headwordlaw03.QuireFolds'. -/
def quireFoldsUptoCard : Claim7 := { stood := { row := quireFoldsUptoRow, standIns := [], harness := (true, "07804c26de599672acc67e386584c211203a770fee599f7768382526ea6589be"), looks := false }, kinds := [], alts := [], laidByText := true, laidKinds := [.data, .data], laidTests := true, laidLooks := .later }
def QuireFoldsUptoCardSaid : Prop := Claim7.holds Tryd.pinned (.plain (OpenSpec.upto quireFoldsSpec)) quireFoldsUptoCard

/-- THE SECOND FORM's CARD OF 'headwordlaw03.QuireCreases'. -/
def quireCreasesUptoCard : Claim7 := { stood := { row := quireCreasesUptoRow, standIns := [], harness := (true, "07804c26de599672acc67e386584c211203a770fee599f7768382526ea6589be"), looks := false }, kinds := [], alts := [], laidByText := true, laidKinds := [.data, .data], laidTests := true, laidLooks := .later }
def QuireCreasesUptoCardSaid : Prop := Claim7.holds Tryd.pinned (.plain (OpenSpec.upto quireCreasesSpec)) quireCreasesUptoCard

/-- THE SECOND FORM's CARD OF 'headwordlaw03.QuirePiles'. -/
def quirePilesUptoCard : Claim7 := { stood := { row := quirePilesUptoRow, standIns := [], harness := (true, "07804c26de599672acc67e386584c211203a770fee599f7768382526ea6589be"), looks := false }, kinds := [], alts := [], laidByText := true, laidKinds := [.data, .data], laidTests := true, laidLooks := .later }
def QuirePilesUptoCardSaid : Prop := Claim7.holds Tryd.pinned (.plain (OpenSpec.upto quirePilesSpec)) quirePilesUptoCard

/-- THE SECOND FORM's CARD OF 'headwordlaw03.QuireUnfolded'. -/
def quireUnfoldedUptoCard : Claim7 := { stood := { row := quireUnfoldedUptoRow, standIns := [], harness := (true, "07804c26de599672acc67e386584c211203a770fee599f7768382526ea6589be"), looks := false }, kinds := [], alts := [], laidByText := true, laidKinds := [.data, .data], laidTests := true, laidLooks := .later }
def QuireUnfoldedUptoCardSaid : Prop := Claim7.holds Tryd.pinned (.plain (OpenSpec.upto quireUnfoldedSpec)) quireUnfoldedUptoCard
end Rows
end Go.Proofs.YtbkmicimpgabgaaDoor
