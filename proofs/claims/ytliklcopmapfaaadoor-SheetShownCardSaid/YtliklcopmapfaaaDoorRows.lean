/-
  NARROWER THAN 'FOR EVERY INPUT', by the rows' own cells (each row's printed sentence says how): SheetGroups: laid · SheetShown: laid · SheetKnown: laid.
  DERIVED. THE GIVEN ROWS OF THIS SEAT. 3 by the template 'for every input the law returns true; each argument reads behind the call as it read before'; 0 by the template 'total and deterministic' (their statements: YtliklcopmapfaaaDoorTotals.lean).
  GIVEN WITH THE SEED: the statements are not yours to turn. If you find one false, say at which input.
  Laid BY PROGRAM, IN A SANDBOX (cutbox-rows.mjs): the forced cells as the released guide's own fill.sh prints them over the translation 794fe69e57d901dd… (all of the seat's roots in one cut). By AI agents, Wed Nov 11 2026. No macro, syntax, notation, axiom, sorry.
-/
import Derived.Test.YtliklcopmapfaaaDoorChecked
import GoSem.Claim
import GoSem.ClaimJoined
import GoSem.ClaimMapViews
import Derived.JoinedTies
import Derived.KernelRfl
namespace Go.Proofs.YtliklcopmapfaaaDoor
/- THE CELL 'sum', in the pinned program and in every row, IS THE sha256 OF THE DUMP (.gsa) THAT YtliklcopmapfaaaDoorProg.lean LOADS. Nothing in Lean hashes anything: it is a label: what it is worth is what the hold of that sum in a sandbox is worth. -/
noncomputable def Tryd.pinned : Pinned := { name := "ytliklcopmapfaaadoor", sum := "794fe69e57d901dd5d0820175c830a5d591773451d2ed2b9928bf919814a66d8", checked := Tryd.checked }
namespace Rows
def none {H : Type} : Left H := { results := [], args := [] }

/- WHAT THE LISTED PACKAGE-LEVEL VARIABLES READ AS WHEN THE CALL BEGINS. Each datum BY PROGRAM (the guide's laid-datum.mjs) off the statement by which the dump's own 'gosem.cut.vars' lays the variable. In a bare row this is a premise. The card (YtliklcopmapfaaaDoorCards.lean) ties it to the program's text. -/
def laid_headword_sheet_divisors {H : Type} : DataW H := .agg [.nil, .slice [.lit (.int .i64 1)] [], .slice [.lit (.int .i64 1), .lit (.int .i64 2)] [], .slice [.lit (.int .i64 1), .lit (.int .i64 3)] [], .slice [.lit (.int .i64 1), .lit (.int .i64 2), .lit (.int .i64 4)] [], .slice [.lit (.int .i64 1), .lit (.int .i64 5)] [], .slice [.lit (.int .i64 1), .lit (.int .i64 2), .lit (.int .i64 3), .lit (.int .i64 6)] [], .slice [.lit (.int .i64 1), .lit (.int .i64 7)] [], .slice [.lit (.int .i64 1), .lit (.int .i64 2), .lit (.int .i64 4), .lit (.int .i64 8)] [], .slice [.lit (.int .i64 1), .lit (.int .i64 3), .lit (.int .i64 9)] [], .slice [.lit (.int .i64 1), .lit (.int .i64 2), .lit (.int .i64 5), .lit (.int .i64 10)] [], .slice [.lit (.int .i64 1), .lit (.int .i64 11)] [], .slice [.lit (.int .i64 1), .lit (.int .i64 2), .lit (.int .i64 3), .lit (.int .i64 4), .lit (.int .i64 6), .lit (.int .i64 12)] [], .slice [.lit (.int .i64 1), .lit (.int .i64 13)] [], .slice [.lit (.int .i64 1), .lit (.int .i64 2), .lit (.int .i64 7), .lit (.int .i64 14)] [], .slice [.lit (.int .i64 1), .lit (.int .i64 3), .lit (.int .i64 5), .lit (.int .i64 15)] [], .slice [.lit (.int .i64 1), .lit (.int .i64 2), .lit (.int .i64 4), .lit (.int .i64 8), .lit (.int .i64 16)] [], .slice [.lit (.int .i64 1), .lit (.int .i64 17)] [], .slice [.lit (.int .i64 1), .lit (.int .i64 2), .lit (.int .i64 3), .lit (.int .i64 6), .lit (.int .i64 9), .lit (.int .i64 18)] [], .slice [.lit (.int .i64 1), .lit (.int .i64 19)] [], .slice [.lit (.int .i64 1), .lit (.int .i64 2), .lit (.int .i64 4), .lit (.int .i64 5), .lit (.int .i64 10), .lit (.int .i64 20)] [], .slice [.lit (.int .i64 1), .lit (.int .i64 3), .lit (.int .i64 7), .lit (.int .i64 21)] [], .slice [.lit (.int .i64 1), .lit (.int .i64 2), .lit (.int .i64 11), .lit (.int .i64 22)] [], .slice [.lit (.int .i64 1), .lit (.int .i64 23)] [], .slice [.lit (.int .i64 1), .lit (.int .i64 2), .lit (.int .i64 3), .lit (.int .i64 4), .lit (.int .i64 6), .lit (.int .i64 8), .lit (.int .i64 12), .lit (.int .i64 24)] []]

/-- 'headwordlaw09.SheetGroups': WHATEVER THE INPUT: true; the input reads as it did. -/
def sheetGroupsSpec : ChangeSpec := { name := "sheetGroups", fn := fun _ => fun
  | [d1, d2, d3] => { results := [.lit (.bool true)], args := [d1, d2, d3] }
  | _ => none }
def sheetGroupsRow : OpenClaim := { program := "ytliklcopmapfaaadoor", sum := "794fe69e57d901dd5d0820175c830a5d591773451d2ed2b9928bf919814a66d8", func := "headword/headwordlaw09.SheetGroups", spec := "sheetGroups", unfollowed := true, recurses := true, named := ["headword/sheet.divisors"], apart := false, laid := [("headword/sheet.divisors", laid_headword_sheet_divisors)] }
def SheetGroupsSaid : Prop := sheetGroupsRow.holds Tryd.pinned (OpenSpec.ofChange sheetGroupsSpec)

/-- ITS FALSE NEIGHBOUR: 'it returns false'. Refute it at one input. -/
def sheetGroupsWrong : ChangeSpec := { name := "sheetGroups", fn := fun _ => fun
  | [d1, d2, d3] => { results := [.lit (.bool false)], args := [d1, d2, d3] }
  | _ => none }
def SheetGroupsWrongFalsely : Prop := sheetGroupsRow.holds Tryd.pinned (OpenSpec.ofChange sheetGroupsWrong)

/-- 'headwordlaw09.SheetShown': WHATEVER THE INPUT: true; the input reads as it did. -/
def sheetShownSpec : ChangeSpec := { name := "sheetShown", fn := fun _ => fun
  | [d1, d2, d3] => { results := [.lit (.bool true)], args := [d1, d2, d3] }
  | _ => none }
def sheetShownRow : OpenClaim := { program := "ytliklcopmapfaaadoor", sum := "794fe69e57d901dd5d0820175c830a5d591773451d2ed2b9928bf919814a66d8", func := "headword/headwordlaw09.SheetShown", spec := "sheetShown", unfollowed := true, recurses := true, named := ["headword/sheet.divisors"], apart := false, laid := [("headword/sheet.divisors", laid_headword_sheet_divisors)] }
def SheetShownSaid : Prop := sheetShownRow.holds Tryd.pinned (OpenSpec.ofChange sheetShownSpec)

/-- ITS FALSE NEIGHBOUR: 'it returns false'. Refute it at one input. -/
def sheetShownWrong : ChangeSpec := { name := "sheetShown", fn := fun _ => fun
  | [d1, d2, d3] => { results := [.lit (.bool false)], args := [d1, d2, d3] }
  | _ => none }
def SheetShownWrongFalsely : Prop := sheetShownRow.holds Tryd.pinned (OpenSpec.ofChange sheetShownWrong)

/-- 'headwordlaw09.SheetKnown': WHATEVER THE INPUT: true; the input reads as it did. -/
def sheetKnownSpec : ChangeSpec := { name := "sheetKnown", fn := fun _ => fun
  | [] => { results := [.lit (.bool true)], args := [] }
  | _ => none }
def sheetKnownRow : OpenClaim := { program := "ytliklcopmapfaaadoor", sum := "794fe69e57d901dd5d0820175c830a5d591773451d2ed2b9928bf919814a66d8", func := "headword/headwordlaw09.SheetKnown", spec := "sheetKnown", unfollowed := true, recurses := true, named := ["headword/sheet.divisors"], apart := false, laid := [("headword/sheet.divisors", laid_headword_sheet_divisors)] }
def SheetKnownSaid : Prop := sheetKnownRow.holds Tryd.pinned (OpenSpec.ofChange sheetKnownSpec)

/-- ITS FALSE NEIGHBOUR: 'it returns false'. Refute it at one input. -/
def sheetKnownWrong : ChangeSpec := { name := "sheetKnown", fn := fun _ => fun
  | [] => { results := [.lit (.bool false)], args := [] }
  | _ => none }
def SheetKnownWrongFalsely : Prop := sheetKnownRow.holds Tryd.pinned (OpenSpec.ofChange sheetKnownWrong)

/- THE SECOND FORM. 'bulk': how many values and letters a reading holds, each counted each time it is reached (what is shared counts as often as it is met; a slice's spare places count too). A statement '..UptoSaid' is the law's where the arguments, and the package variables that the reading takes, are together of bulk at most 1048576: NARROWER than '..Said'. Prove '..Said' where nothing that the law and all that it calls make is longer than what came in: it says more and counts as full. Else prove '..UptoSaid'. A law counts once. -/
mutual
def uptoBulk {H : Type} : DataW H → Nat
  | .lit (.string bytes) => bytes.length + 1
  | .lit _ => 1
  | .nil => 1
  | .ptr d => uptoBulk d + 1
  | .slice elems spare => uptoBulkAll elems + uptoBulkAll spare + 1
  | .agg parts => uptoBulkAll parts + 1
  | .iface _ d => uptoBulk d + 1
  | .map entries => uptoBulkEntries entries + 1
  | .held _ => 1
def uptoBulkAll {H : Type} : List (DataW H) → Nat
  | [] => 0
  | d :: r => uptoBulk d + uptoBulkAll r
def uptoBulkEntries {H : Type} : List (Lit × DataW H) → Nat
  | [] => 0
  | x :: r => uptoBulkEntry x + uptoBulkEntries r
def uptoBulkEntry {H : Type} : Lit × DataW H → Nat
  | (.string bytes, d) => bytes.length + uptoBulk d + 1
  | (_, d) => uptoBulk d + 1
 end
def uptoSmall : (H : Type) → List (DataW H) → Bool := fun _ ds => decide (uptoBulkAll ds ≤ 1048576)
def OpenSpec.upto (s : _root_.Go.ChangeSpec) : _root_.Go.OpenSpec := { _root_.Go.OpenSpec.ofChange s with cond := some uptoSmall }

/-- 'headwordlaw09.SheetGroups', WHERE WHAT IT READS IS OF BULK AT MOST 1048576: true; the input reads as it did. -/
def sheetGroupsUptoRow : OpenClaim := { program := "ytliklcopmapfaaadoor", sum := "794fe69e57d901dd5d0820175c830a5d591773451d2ed2b9928bf919814a66d8", func := "headword/headwordlaw09.SheetGroups", spec := "sheetGroups", unfollowed := true, recurses := true, named := ["headword/sheet.divisors"], apart := false, laid := [("headword/sheet.divisors", laid_headword_sheet_divisors)], narrowed := true }
def SheetGroupsUptoSaid : Prop := sheetGroupsUptoRow.holds Tryd.pinned (OpenSpec.upto sheetGroupsSpec)

/-- 'headwordlaw09.SheetShown', WHERE WHAT IT READS IS OF BULK AT MOST 1048576: true; the input reads as it did. -/
def sheetShownUptoRow : OpenClaim := { program := "ytliklcopmapfaaadoor", sum := "794fe69e57d901dd5d0820175c830a5d591773451d2ed2b9928bf919814a66d8", func := "headword/headwordlaw09.SheetShown", spec := "sheetShown", unfollowed := true, recurses := true, named := ["headword/sheet.divisors"], apart := false, laid := [("headword/sheet.divisors", laid_headword_sheet_divisors)], narrowed := true }
def SheetShownUptoSaid : Prop := sheetShownUptoRow.holds Tryd.pinned (OpenSpec.upto sheetShownSpec)

/-- 'headwordlaw09.SheetKnown', WHERE WHAT IT READS IS OF BULK AT MOST 1048576: true; the input reads as it did. -/
def sheetKnownUptoRow : OpenClaim := { program := "ytliklcopmapfaaadoor", sum := "794fe69e57d901dd5d0820175c830a5d591773451d2ed2b9928bf919814a66d8", func := "headword/headwordlaw09.SheetKnown", spec := "sheetKnown", unfollowed := true, recurses := true, named := ["headword/sheet.divisors"], apart := false, laid := [("headword/sheet.divisors", laid_headword_sheet_divisors)], narrowed := true }
def SheetKnownUptoSaid : Prop := sheetKnownUptoRow.holds Tryd.pinned (OpenSpec.upto sheetKnownSpec)

end Rows
end Go.Proofs.YtliklcopmapfaaaDoor
