/-
  No cell of these rows narrows 'for every input' (looked for: loops, veiled, ifaces, maps, wideKeys, modest, calm, conditions, laid).
  DERIVED. THE GIVEN ROWS OF THIS SEAT. 4 by the template 'for every input the law returns true; each argument reads behind the call as it read before'; 0 by the template 'total and deterministic' (their statements: YtgcckkkejknnoaaTotals.lean).
  GIVEN WITH THE SEED: the statements are not yours to turn. If you find one false, say at which input.
  Laid BY PROGRAM, IN A SANDBOX (cutbox-rows.mjs): the forced cells as the released guide's own fill.sh prints them over the translation a347a1f9a62227aa… (all of the seat's roots in one cut). By AI agents, Wed Nov 11 2026. No macro, syntax, notation, axiom, sorry.
-/
import Derived.Test.YtgcckkkejknnoaaChecked
import GoSem.Claim
import GoSem.ClaimJoined
import GoSem.ClaimMapViews
import Derived.JoinedTies
import Derived.KernelRfl
namespace Go.Proofs.Ytgcckkkejknnoaa
/- THE CELL 'sum', in the pinned program and in every row, IS THE sha256 OF THE DUMP (.gsa) THAT YtgcckkkejknnoaaProg.lean LOADS. Nothing in Lean hashes anything: it is a label: what it is worth is what the hold of that sum in a sandbox is worth. -/
noncomputable def Try.pinned : Pinned := { name := "ytgcckkkejknnoaa", sum := "a347a1f9a62227aaa8348d3f646e9b2eabe3ebb15839d4d2f2d813ac87f4f056", checked := Try.checked }
namespace Rows
def none {H : Type} : Left H := { results := [], args := [] }

/-- 'headwordlaw05.ClassKnown': WHATEVER THE INPUT: true; the input reads as it did. -/
def classKnownSpec : ChangeSpec := { name := "classKnown", fn := fun _ => fun
  | [] => { results := [.lit (.bool true)], args := [] }
  | _ => none }
def classKnownRow : OpenClaim := { program := "ytgcckkkejknnoaa", sum := "a347a1f9a62227aaa8348d3f646e9b2eabe3ebb15839d4d2f2d813ac87f4f056", func := "headword/headwordlaw05.ClassKnown", spec := "classKnown", inPlace := ["slices.overlaps[headword/class.set[headword/class.article]]"], unfollowed := true, recurses := true, plainKeys := false, apart := false }
def ClassKnownSaid : Prop := classKnownRow.holds Try.pinned (OpenSpec.ofChange classKnownSpec)

/-- ITS FALSE NEIGHBOUR: 'it returns false'. Refute it at one input. -/
def classKnownWrong : ChangeSpec := { name := "classKnown", fn := fun _ => fun
  | [] => { results := [.lit (.bool false)], args := [] }
  | _ => none }
def ClassKnownWrongFalsely : Prop := classKnownRow.holds Try.pinned (OpenSpec.ofChange classKnownWrong)

/-- 'headwordlaw06.StandKnown': WHATEVER THE INPUT: true; the input reads as it did. -/
def standKnownSpec : ChangeSpec := { name := "standKnown", fn := fun _ => fun
  | [] => { results := [.lit (.bool true)], args := [] }
  | _ => none }
def standKnownRow : OpenClaim := { program := "ytgcckkkejknnoaa", sum := "a347a1f9a62227aaa8348d3f646e9b2eabe3ebb15839d4d2f2d813ac87f4f056", func := "headword/headwordlaw06.StandKnown", spec := "standKnown", unfollowed := true, recurses := true, plainKeys := false, apart := false }
def StandKnownSaid : Prop := standKnownRow.holds Try.pinned (OpenSpec.ofChange standKnownSpec)

/-- ITS FALSE NEIGHBOUR: 'it returns false'. Refute it at one input. -/
def standKnownWrong : ChangeSpec := { name := "standKnown", fn := fun _ => fun
  | [] => { results := [.lit (.bool false)], args := [] }
  | _ => none }
def StandKnownWrongFalsely : Prop := standKnownRow.holds Try.pinned (OpenSpec.ofChange standKnownWrong)

/-- 'headwordlaw07.PressKnown': WHATEVER THE INPUT: true; the input reads as it did. -/
def pressKnownSpec : ChangeSpec := { name := "pressKnown", fn := fun _ => fun
  | [] => { results := [.lit (.bool true)], args := [] }
  | _ => none }
def pressKnownRow : OpenClaim := { program := "ytgcckkkejknnoaa", sum := "a347a1f9a62227aaa8348d3f646e9b2eabe3ebb15839d4d2f2d813ac87f4f056", func := "headword/headwordlaw07.PressKnown", spec := "pressKnown", unfollowed := true, recurses := true, plainKeys := false, apart := false }
def PressKnownSaid : Prop := pressKnownRow.holds Try.pinned (OpenSpec.ofChange pressKnownSpec)

/-- ITS FALSE NEIGHBOUR: 'it returns false'. Refute it at one input. -/
def pressKnownWrong : ChangeSpec := { name := "pressKnown", fn := fun _ => fun
  | [] => { results := [.lit (.bool false)], args := [] }
  | _ => none }
def PressKnownWrongFalsely : Prop := pressKnownRow.holds Try.pinned (OpenSpec.ofChange pressKnownWrong)

/-- 'headwordlaw08.ReignKnown': WHATEVER THE INPUT: true; the input reads as it did. -/
def reignKnownSpec : ChangeSpec := { name := "reignKnown", fn := fun _ => fun
  | [] => { results := [.lit (.bool true)], args := [] }
  | _ => none }
def reignKnownRow : OpenClaim := { program := "ytgcckkkejknnoaa", sum := "a347a1f9a62227aaa8348d3f646e9b2eabe3ebb15839d4d2f2d813ac87f4f056", func := "headword/headwordlaw08.ReignKnown", spec := "reignKnown", unfollowed := true, recurses := true, plainKeys := false, apart := false }
def ReignKnownSaid : Prop := reignKnownRow.holds Try.pinned (OpenSpec.ofChange reignKnownSpec)

/-- ITS FALSE NEIGHBOUR: 'it returns false'. Refute it at one input. -/
def reignKnownWrong : ChangeSpec := { name := "reignKnown", fn := fun _ => fun
  | [] => { results := [.lit (.bool false)], args := [] }
  | _ => none }
def ReignKnownWrongFalsely : Prop := reignKnownRow.holds Try.pinned (OpenSpec.ofChange reignKnownWrong)

/- THE SECOND FORM. 'bulk': how many values and letters a reading holds, each counted each time it is reached (what is shared counts as often as it is met; a slice's spare places count too). A statement '..UptoSaid' is the law's where the arguments, and the package variables that the reading takes, are together of bulk at most 1048576: NARROWER than '..Said'. Prove '..Said' where nothing that the law and all that it calls make is longer than what came in: it says more and counts as full. Else prove '..UptoSaid'. A law counts once. -/
mutual
def uptoBulk {H : Type} : DataW H → Nat
  | .lit (.string bytes) => bytes.length + 1
  | .lit _ => 1
  | .nil => 1
  | .ptr d => uptoBulk d + 1
  | .slice elems spare => uptoBulkAll elems + uptoBulkAll spare + 1
  | .agg parts => uptoBulkAll parts + 1
  | .iface _ d => uptoBulk d + 1
  | .map entries => uptoBulkEntries entries + 1
  | .held _ => 1
def uptoBulkAll {H : Type} : List (DataW H) → Nat
  | [] => 0
  | d :: r => uptoBulk d + uptoBulkAll r
def uptoBulkEntries {H : Type} : List (Lit × DataW H) → Nat
  | [] => 0
  | x :: r => uptoBulkEntry x + uptoBulkEntries r
def uptoBulkEntry {H : Type} : Lit × DataW H → Nat
  | (.string bytes, d) => bytes.length + uptoBulk d + 1
  | (_, d) => uptoBulk d + 1
 end
def uptoSmall : (H : Type) → List (DataW H) → Bool := fun _ ds => decide (uptoBulkAll ds ≤ 1048576)
def OpenSpec.upto (s : _root_.Go.ChangeSpec) : _root_.Go.OpenSpec := { _root_.Go.OpenSpec.ofChange s with cond := some uptoSmall }

/-- 'headwordlaw05.ClassKnown', WHERE WHAT IT READS IS OF BULK AT MOST 1048576: true; the input reads as it did. -/
def classKnownUptoRow : OpenClaim := { program := "ytgcckkkejknnoaa", sum := "a347a1f9a62227aaa8348d3f646e9b2eabe3ebb15839d4d2f2d813ac87f4f056", func := "headword/headwordlaw05.ClassKnown", spec := "classKnown", inPlace := ["slices.overlaps[headword/class.set[headword/class.article]]"], unfollowed := true, recurses := true, plainKeys := false, apart := false, narrowed := true }
def ClassKnownUptoSaid : Prop := classKnownUptoRow.holds Try.pinned (OpenSpec.upto classKnownSpec)

/-- 'headwordlaw06.StandKnown', WHERE WHAT IT READS IS OF BULK AT MOST 1048576: true; the input reads as it did. -/
def standKnownUptoRow : OpenClaim := { program := "ytgcckkkejknnoaa", sum := "a347a1f9a62227aaa8348d3f646e9b2eabe3ebb15839d4d2f2d813ac87f4f056", func := "headword/headwordlaw06.StandKnown", spec := "standKnown", unfollowed := true, recurses := true, plainKeys := false, apart := false, narrowed := true }
def StandKnownUptoSaid : Prop := standKnownUptoRow.holds Try.pinned (OpenSpec.upto standKnownSpec)

/-- 'headwordlaw07.PressKnown', WHERE WHAT IT READS IS OF BULK AT MOST 1048576: true; the input reads as it did. -/
def pressKnownUptoRow : OpenClaim := { program := "ytgcckkkejknnoaa", sum := "a347a1f9a62227aaa8348d3f646e9b2eabe3ebb15839d4d2f2d813ac87f4f056", func := "headword/headwordlaw07.PressKnown", spec := "pressKnown", unfollowed := true, recurses := true, plainKeys := false, apart := false, narrowed := true }
def PressKnownUptoSaid : Prop := pressKnownUptoRow.holds Try.pinned (OpenSpec.upto pressKnownSpec)

/-- 'headwordlaw08.ReignKnown', WHERE WHAT IT READS IS OF BULK AT MOST 1048576: true; the input reads as it did. -/
def reignKnownUptoRow : OpenClaim := { program := "ytgcckkkejknnoaa", sum := "a347a1f9a62227aaa8348d3f646e9b2eabe3ebb15839d4d2f2d813ac87f4f056", func := "headword/headwordlaw08.ReignKnown", spec := "reignKnown", unfollowed := true, recurses := true, plainKeys := false, apart := false, narrowed := true }
def ReignKnownUptoSaid : Prop := reignKnownUptoRow.holds Try.pinned (OpenSpec.upto reignKnownSpec)

end Rows
end Go.Proofs.Ytgcckkkejknnoaa
