/-
  No cell of these rows narrows 'for every input' (looked for: loops, veiled, ifaces, maps, wideKeys, modest, calm, conditions, laid).
  DERIVED. THE GIVEN ROWS OF THIS SEAT. 9 by the template 'for every input the law returns true; each argument reads behind the call as it read before'; 0 by the template 'total and deterministic' (their statements: YtkbeaheladmeiaaTotals.lean).
  GIVEN WITH THE SEED: the statements are not yours to turn. If you find one false, say at which input.
  Laid BY PROGRAM, IN A SANDBOX (cutbox-rows.mjs): the forced cells as the released guide's own fill.sh prints them over the translation 2cd0b2076a865577… (all of the seat's roots in one cut). By AI agents, Wed Nov 11 2026. No macro, syntax, notation, axiom, sorry.
-/
import Derived.Test.YtkbeaheladmeiaaChecked
import GoSem.Claim
import GoSem.ClaimJoined
import GoSem.ClaimMapViews
import Derived.JoinedTies
import Derived.KernelRfl
namespace Go.Proofs.Ytkbeaheladmeiaa
/- THE CELL 'sum', in the pinned program and in every row, IS THE sha256 OF THE DUMP (.gsa) THAT YtkbeaheladmeiaaProg.lean LOADS. Nothing in Lean hashes anything: it is a label: what it is worth is what the hold of that sum in a sandbox is worth. -/
noncomputable def Try.pinned : Pinned := { name := "ytkbeaheladmeiaa", sum := "2cd0b2076a865577528c5b895bec5f4c3a24e4140285cd2788f49fb3349b0340", checked := Try.checked }
namespace Rows
def none {H : Type} : Left H := { results := [], args := [] }

/-- 'headwordlaw11.TableBirkhoff': WHATEVER THE INPUT: true; the input reads as it did. -/
def tableBirkhoffSpec : ChangeSpec := { name := "tableBirkhoff", fn := fun _ => fun
  | [d] => { results := [.lit (.bool true)], args := [d] }
  | _ => none }
def tableBirkhoffRow : OpenClaim := { program := "ytkbeaheladmeiaa", sum := "2cd0b2076a865577528c5b895bec5f4c3a24e4140285cd2788f49fb3349b0340", func := "headword/headwordlaw11.TableBirkhoff", spec := "tableBirkhoff", unfollowed := true, recurses := true, apart := false }
def TableBirkhoffSaid : Prop := tableBirkhoffRow.holds Try.pinned (OpenSpec.ofChange tableBirkhoffSpec)

/-- ITS FALSE NEIGHBOUR: 'it returns false'. Refute it at one input. -/
def tableBirkhoffWrong : ChangeSpec := { name := "tableBirkhoff", fn := fun _ => fun
  | [d] => { results := [.lit (.bool false)], args := [d] }
  | _ => none }
def TableBirkhoffWrongFalsely : Prop := tableBirkhoffRow.holds Try.pinned (OpenSpec.ofChange tableBirkhoffWrong)

/-- 'headwordlaw11.TableBlocked': WHATEVER THE INPUT: true; the input reads as it did. -/
def tableBlockedSpec : ChangeSpec := { name := "tableBlocked", fn := fun _ => fun
  | [d] => { results := [.lit (.bool true)], args := [d] }
  | _ => none }
def tableBlockedRow : OpenClaim := { program := "ytkbeaheladmeiaa", sum := "2cd0b2076a865577528c5b895bec5f4c3a24e4140285cd2788f49fb3349b0340", func := "headword/headwordlaw11.TableBlocked", spec := "tableBlocked", unfollowed := true, recurses := true, apart := false }
def TableBlockedSaid : Prop := tableBlockedRow.holds Try.pinned (OpenSpec.ofChange tableBlockedSpec)

/-- ITS FALSE NEIGHBOUR: 'it returns false'. Refute it at one input. -/
def tableBlockedWrong : ChangeSpec := { name := "tableBlocked", fn := fun _ => fun
  | [d] => { results := [.lit (.bool false)], args := [d] }
  | _ => none }
def TableBlockedWrongFalsely : Prop := tableBlockedRow.holds Try.pinned (OpenSpec.ofChange tableBlockedWrong)

/-- 'headwordlaw11.TableWaerden': WHATEVER THE INPUT: true; the input reads as it did. -/
def tableWaerdenSpec : ChangeSpec := { name := "tableWaerden", fn := fun _ => fun
  | [d] => { results := [.lit (.bool true)], args := [d] }
  | _ => none }
def tableWaerdenRow : OpenClaim := { program := "ytkbeaheladmeiaa", sum := "2cd0b2076a865577528c5b895bec5f4c3a24e4140285cd2788f49fb3349b0340", func := "headword/headwordlaw11.TableWaerden", spec := "tableWaerden", unfollowed := true, recurses := true, apart := false }
def TableWaerdenSaid : Prop := tableWaerdenRow.holds Try.pinned (OpenSpec.ofChange tableWaerdenSpec)

/-- ITS FALSE NEIGHBOUR: 'it returns false'. Refute it at one input. -/
def tableWaerdenWrong : ChangeSpec := { name := "tableWaerden", fn := fun _ => fun
  | [d] => { results := [.lit (.bool false)], args := [d] }
  | _ => none }
def TableWaerdenWrongFalsely : Prop := tableWaerdenRow.holds Try.pinned (OpenSpec.ofChange tableWaerdenWrong)

/-- 'headwordlaw11.TableAdded': WHATEVER THE INPUT: true; the input reads as it did. -/
def tableAddedSpec : ChangeSpec := { name := "tableAdded", fn := fun _ => fun
  | [d1, d2, d3] => { results := [.lit (.bool true)], args := [d1, d2, d3] }
  | _ => none }
def tableAddedRow : OpenClaim := { program := "ytkbeaheladmeiaa", sum := "2cd0b2076a865577528c5b895bec5f4c3a24e4140285cd2788f49fb3349b0340", func := "headword/headwordlaw11.TableAdded", spec := "tableAdded", unfollowed := true, recurses := true, apart := false }
def TableAddedSaid : Prop := tableAddedRow.holds Try.pinned (OpenSpec.ofChange tableAddedSpec)

/-- ITS FALSE NEIGHBOUR: 'it returns false'. Refute it at one input. -/
def tableAddedWrong : ChangeSpec := { name := "tableAdded", fn := fun _ => fun
  | [d1, d2, d3] => { results := [.lit (.bool false)], args := [d1, d2, d3] }
  | _ => none }
def TableAddedWrongFalsely : Prop := tableAddedRow.holds Try.pinned (OpenSpec.ofChange tableAddedWrong)

/-- 'headwordlaw11.TableCounted': WHATEVER THE INPUT: true; the input reads as it did. -/
def tableCountedSpec : ChangeSpec := { name := "tableCounted", fn := fun _ => fun
  | [d] => { results := [.lit (.bool true)], args := [d] }
  | _ => none }
def tableCountedRow : OpenClaim := { program := "ytkbeaheladmeiaa", sum := "2cd0b2076a865577528c5b895bec5f4c3a24e4140285cd2788f49fb3349b0340", func := "headword/headwordlaw11.TableCounted", spec := "tableCounted", unfollowed := true, recurses := true, apart := false }
def TableCountedSaid : Prop := tableCountedRow.holds Try.pinned (OpenSpec.ofChange tableCountedSpec)

/-- ITS FALSE NEIGHBOUR: 'it returns false'. Refute it at one input. -/
def tableCountedWrong : ChangeSpec := { name := "tableCounted", fn := fun _ => fun
  | [d] => { results := [.lit (.bool false)], args := [d] }
  | _ => none }
def TableCountedWrongFalsely : Prop := tableCountedRow.holds Try.pinned (OpenSpec.ofChange tableCountedWrong)

/-- 'headwordlaw11.TableNamed': WHATEVER THE INPUT: true; the input reads as it did. -/
def tableNamedSpec : ChangeSpec := { name := "tableNamed", fn := fun _ => fun
  | [d1, d2, d3] => { results := [.lit (.bool true)], args := [d1, d2, d3] }
  | _ => none }
def tableNamedRow : OpenClaim := { program := "ytkbeaheladmeiaa", sum := "2cd0b2076a865577528c5b895bec5f4c3a24e4140285cd2788f49fb3349b0340", func := "headword/headwordlaw11.TableNamed", spec := "tableNamed", unfollowed := true, recurses := true, apart := false }
def TableNamedSaid : Prop := tableNamedRow.holds Try.pinned (OpenSpec.ofChange tableNamedSpec)

/-- ITS FALSE NEIGHBOUR: 'it returns false'. Refute it at one input. -/
def tableNamedWrong : ChangeSpec := { name := "tableNamed", fn := fun _ => fun
  | [d1, d2, d3] => { results := [.lit (.bool false)], args := [d1, d2, d3] }
  | _ => none }
def TableNamedWrongFalsely : Prop := tableNamedRow.holds Try.pinned (OpenSpec.ofChange tableNamedWrong)

/-- 'headwordlaw11.TableMore': WHATEVER THE INPUT: true; the input reads as it did. -/
def tableMoreSpec : ChangeSpec := { name := "tableMore", fn := fun _ => fun
  | [d1, d2, d3, d4] => { results := [.lit (.bool true)], args := [d1, d2, d3, d4] }
  | _ => none }
def tableMoreRow : OpenClaim := { program := "ytkbeaheladmeiaa", sum := "2cd0b2076a865577528c5b895bec5f4c3a24e4140285cd2788f49fb3349b0340", func := "headword/headwordlaw11.TableMore", spec := "tableMore", unfollowed := true, recurses := true, apart := false }
def TableMoreSaid : Prop := tableMoreRow.holds Try.pinned (OpenSpec.ofChange tableMoreSpec)

/-- ITS FALSE NEIGHBOUR: 'it returns false'. Refute it at one input. -/
def tableMoreWrong : ChangeSpec := { name := "tableMore", fn := fun _ => fun
  | [d1, d2, d3, d4] => { results := [.lit (.bool false)], args := [d1, d2, d3, d4] }
  | _ => none }
def TableMoreWrongFalsely : Prop := tableMoreRow.holds Try.pinned (OpenSpec.ofChange tableMoreWrong)

/-- 'headwordlaw11.TableShown': WHATEVER THE INPUT: true; the input reads as it did. -/
def tableShownSpec : ChangeSpec := { name := "tableShown", fn := fun _ => fun
  | [d1, d2, d3, d4] => { results := [.lit (.bool true)], args := [d1, d2, d3, d4] }
  | _ => none }
def tableShownRow : OpenClaim := { program := "ytkbeaheladmeiaa", sum := "2cd0b2076a865577528c5b895bec5f4c3a24e4140285cd2788f49fb3349b0340", func := "headword/headwordlaw11.TableShown", spec := "tableShown", unfollowed := true, recurses := true, apart := false }
def TableShownSaid : Prop := tableShownRow.holds Try.pinned (OpenSpec.ofChange tableShownSpec)

/-- ITS FALSE NEIGHBOUR: 'it returns false'. Refute it at one input. -/
def tableShownWrong : ChangeSpec := { name := "tableShown", fn := fun _ => fun
  | [d1, d2, d3, d4] => { results := [.lit (.bool false)], args := [d1, d2, d3, d4] }
  | _ => none }
def TableShownWrongFalsely : Prop := tableShownRow.holds Try.pinned (OpenSpec.ofChange tableShownWrong)

/-- 'headwordlaw11.TableKnown': WHATEVER THE INPUT: true; the input reads as it did. -/
def tableKnownSpec : ChangeSpec := { name := "tableKnown", fn := fun _ => fun
  | [] => { results := [.lit (.bool true)], args := [] }
  | _ => none }
def tableKnownRow : OpenClaim := { program := "ytkbeaheladmeiaa", sum := "2cd0b2076a865577528c5b895bec5f4c3a24e4140285cd2788f49fb3349b0340", func := "headword/headwordlaw11.TableKnown", spec := "tableKnown", unfollowed := true, recurses := true, apart := false }
def TableKnownSaid : Prop := tableKnownRow.holds Try.pinned (OpenSpec.ofChange tableKnownSpec)

/-- ITS FALSE NEIGHBOUR: 'it returns false'. Refute it at one input. -/
def tableKnownWrong : ChangeSpec := { name := "tableKnown", fn := fun _ => fun
  | [] => { results := [.lit (.bool false)], args := [] }
  | _ => none }
def TableKnownWrongFalsely : Prop := tableKnownRow.holds Try.pinned (OpenSpec.ofChange tableKnownWrong)

/- THE SECOND FORM. 'bulk': how many values and letters a reading holds, each counted each time it is reached (what is shared counts as often as it is met; a slice's spare places count too). A statement '..UptoSaid' is the law's where the arguments, and the package variables that the reading takes, are together of bulk at most 1048576: NARROWER than '..Said'. Prove '..Said' where nothing that the law and all that it calls make is longer than what came in: it says more and counts as full. Else prove '..UptoSaid'. A law counts once. -/
mutual
def uptoBulk {H : Type} : DataW H → Nat
  | .lit (.string bytes) => bytes.length + 1
  | .lit _ => 1
  | .nil => 1
  | .ptr d => uptoBulk d + 1
  | .slice elems spare => uptoBulkAll elems + uptoBulkAll spare + 1
  | .agg parts => uptoBulkAll parts + 1
  | .iface _ d => uptoBulk d + 1
  | .map entries => uptoBulkEntries entries + 1
  | .held _ => 1
def uptoBulkAll {H : Type} : List (DataW H) → Nat
  | [] => 0
  | d :: r => uptoBulk d + uptoBulkAll r
def uptoBulkEntries {H : Type} : List (Lit × DataW H) → Nat
  | [] => 0
  | x :: r => uptoBulkEntry x + uptoBulkEntries r
def uptoBulkEntry {H : Type} : Lit × DataW H → Nat
  | (.string bytes, d) => bytes.length + uptoBulk d + 1
  | (_, d) => uptoBulk d + 1
 end
def uptoSmall : (H : Type) → List (DataW H) → Bool := fun _ ds => decide (uptoBulkAll ds ≤ 1048576)
def OpenSpec.upto (s : _root_.Go.ChangeSpec) : _root_.Go.OpenSpec := { _root_.Go.OpenSpec.ofChange s with cond := some uptoSmall }

/-- 'headwordlaw11.TableBirkhoff', WHERE WHAT IT READS IS OF BULK AT MOST 1048576: true; the input reads as it did. -/
def tableBirkhoffUptoRow : OpenClaim := { program := "ytkbeaheladmeiaa", sum := "2cd0b2076a865577528c5b895bec5f4c3a24e4140285cd2788f49fb3349b0340", func := "headword/headwordlaw11.TableBirkhoff", spec := "tableBirkhoff", unfollowed := true, recurses := true, apart := false, narrowed := true }
def TableBirkhoffUptoSaid : Prop := tableBirkhoffUptoRow.holds Try.pinned (OpenSpec.upto tableBirkhoffSpec)

/-- 'headwordlaw11.TableBlocked', WHERE WHAT IT READS IS OF BULK AT MOST 1048576: true; the input reads as it did. -/
def tableBlockedUptoRow : OpenClaim := { program := "ytkbeaheladmeiaa", sum := "2cd0b2076a865577528c5b895bec5f4c3a24e4140285cd2788f49fb3349b0340", func := "headword/headwordlaw11.TableBlocked", spec := "tableBlocked", unfollowed := true, recurses := true, apart := false, narrowed := true }
def TableBlockedUptoSaid : Prop := tableBlockedUptoRow.holds Try.pinned (OpenSpec.upto tableBlockedSpec)

/-- 'headwordlaw11.TableWaerden', WHERE WHAT IT READS IS OF BULK AT MOST 1048576: true; the input reads as it did. -/
def tableWaerdenUptoRow : OpenClaim := { program := "ytkbeaheladmeiaa", sum := "2cd0b2076a865577528c5b895bec5f4c3a24e4140285cd2788f49fb3349b0340", func := "headword/headwordlaw11.TableWaerden", spec := "tableWaerden", unfollowed := true, recurses := true, apart := false, narrowed := true }
def TableWaerdenUptoSaid : Prop := tableWaerdenUptoRow.holds Try.pinned (OpenSpec.upto tableWaerdenSpec)

/-- 'headwordlaw11.TableAdded', WHERE WHAT IT READS IS OF BULK AT MOST 1048576: true; the input reads as it did. -/
def tableAddedUptoRow : OpenClaim := { program := "ytkbeaheladmeiaa", sum := "2cd0b2076a865577528c5b895bec5f4c3a24e4140285cd2788f49fb3349b0340", func := "headword/headwordlaw11.TableAdded", spec := "tableAdded", unfollowed := true, recurses := true, apart := false, narrowed := true }
def TableAddedUptoSaid : Prop := tableAddedUptoRow.holds Try.pinned (OpenSpec.upto tableAddedSpec)

/-- 'headwordlaw11.TableCounted', WHERE WHAT IT READS IS OF BULK AT MOST 1048576: true; the input reads as it did. -/
def tableCountedUptoRow : OpenClaim := { program := "ytkbeaheladmeiaa", sum := "2cd0b2076a865577528c5b895bec5f4c3a24e4140285cd2788f49fb3349b0340", func := "headword/headwordlaw11.TableCounted", spec := "tableCounted", unfollowed := true, recurses := true, apart := false, narrowed := true }
def TableCountedUptoSaid : Prop := tableCountedUptoRow.holds Try.pinned (OpenSpec.upto tableCountedSpec)

/-- 'headwordlaw11.TableNamed', WHERE WHAT IT READS IS OF BULK AT MOST 1048576: true; the input reads as it did. -/
def tableNamedUptoRow : OpenClaim := { program := "ytkbeaheladmeiaa", sum := "2cd0b2076a865577528c5b895bec5f4c3a24e4140285cd2788f49fb3349b0340", func := "headword/headwordlaw11.TableNamed", spec := "tableNamed", unfollowed := true, recurses := true, apart := false, narrowed := true }
def TableNamedUptoSaid : Prop := tableNamedUptoRow.holds Try.pinned (OpenSpec.upto tableNamedSpec)

/-- 'headwordlaw11.TableMore', WHERE WHAT IT READS IS OF BULK AT MOST 1048576: true; the input reads as it did. -/
def tableMoreUptoRow : OpenClaim := { program := "ytkbeaheladmeiaa", sum := "2cd0b2076a865577528c5b895bec5f4c3a24e4140285cd2788f49fb3349b0340", func := "headword/headwordlaw11.TableMore", spec := "tableMore", unfollowed := true, recurses := true, apart := false, narrowed := true }
def TableMoreUptoSaid : Prop := tableMoreUptoRow.holds Try.pinned (OpenSpec.upto tableMoreSpec)

/-- 'headwordlaw11.TableShown', WHERE WHAT IT READS IS OF BULK AT MOST 1048576: true; the input reads as it did. -/
def tableShownUptoRow : OpenClaim := { program := "ytkbeaheladmeiaa", sum := "2cd0b2076a865577528c5b895bec5f4c3a24e4140285cd2788f49fb3349b0340", func := "headword/headwordlaw11.TableShown", spec := "tableShown", unfollowed := true, recurses := true, apart := false, narrowed := true }
def TableShownUptoSaid : Prop := tableShownUptoRow.holds Try.pinned (OpenSpec.upto tableShownSpec)

/-- 'headwordlaw11.TableKnown', WHERE WHAT IT READS IS OF BULK AT MOST 1048576: true; the input reads as it did. -/
def tableKnownUptoRow : OpenClaim := { program := "ytkbeaheladmeiaa", sum := "2cd0b2076a865577528c5b895bec5f4c3a24e4140285cd2788f49fb3349b0340", func := "headword/headwordlaw11.TableKnown", spec := "tableKnown", unfollowed := true, recurses := true, apart := false, narrowed := true }
def TableKnownUptoSaid : Prop := tableKnownUptoRow.holds Try.pinned (OpenSpec.upto tableKnownSpec)

end Rows
end Go.Proofs.Ytkbeaheladmeiaa
