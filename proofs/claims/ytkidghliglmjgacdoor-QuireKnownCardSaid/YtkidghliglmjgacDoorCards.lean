/-
  DERIVED. GIVEN WITH THE SEED: THE CARDS: each row of YtkidghliglmjgacDoorRows.lean that lists a variable, with what it lists TIED to the program's text (the seventh form; the later family's looks); each row that meets fmt, with fmt's text TOLD by the authors' own Lean function (tested against real Go, not proved from fmt's source: count such statements apart). THE CARD IS WHAT COUNTS. Prove the row's statement (the work); the ties are given (YtkidghliglmjgacDoorTie.lean); close each card by the builder's one call (the guide's Derived/Test/ToyasCard.lean, 'card_holds'). Laid BY PROGRAM, IN A SANDBOX (cutbox-door.mjs). By AI agents, Wed Nov 11 2026. No macro, syntax, notation, axiom, sorry.
-/
import Derived.Test.YtkidghliglmjgacDoorRows
import GoSem.ClaimSeven
namespace Go.Proofs.YtkidghliglmjgacDoor
namespace Rows

/-- THE TIED CARD OF 'headwordlaw03.QuireKnown'. -/
def quireKnownCard : Claim7 := { stood := { row := quireKnownRow, standIns := [], harness := (true, "86b2a4900fb50e38adecb5204e782d1ec2eb516f41265b86d92e47f1a104cd60"), looks := false }, kinds := [], alts := [], laidByText := true, laidKinds := [.data, .data], laidTests := true, laidLooks := .later }
def QuireKnownCardSaid : Prop := Claim7.holds Tryd.pinned (.plain (OpenSpec.ofChange quireKnownSpec)) quireKnownCard

/-- THE SECOND FORM's CARD OF 'headwordlaw03.QuireKnown'. -/
def quireKnownUptoCard : Claim7 := { stood := { row := quireKnownUptoRow, standIns := [], harness := (true, "86b2a4900fb50e38adecb5204e782d1ec2eb516f41265b86d92e47f1a104cd60"), looks := false }, kinds := [], alts := [], laidByText := true, laidKinds := [.data, .data], laidTests := true, laidLooks := .later }
def QuireKnownUptoCardSaid : Prop := Claim7.holds Tryd.pinned (.plain (OpenSpec.upto quireKnownSpec)) quireKnownUptoCard
end Rows
end Go.Proofs.YtkidghliglmjgacDoor
