/-
  No cell of these rows narrows 'for every input' (looked for: loops, veiled, ifaces, maps, wideKeys, modest, calm, conditions, laid).
  DERIVED. THE GIVEN ROWS OF THIS SEAT. 13 by the template 'for every input the law returns true; each argument reads behind the call as it read before'; 0 by the template 'total and deterministic' (their statements: YtmljpnmaijakiaaTotals.lean).
  GIVEN WITH THE SEED: the statements are not yours to turn. If you find one false, say at which input.
  Laid BY PROGRAM, IN A SANDBOX (cutbox-rows.mjs): the forced cells as the released guide's own fill.sh prints them over the translation eec3b2cee124b7a5… (all of the seat's roots in one cut). By AI agents, Wed Nov 11 2026. No macro, syntax, notation, axiom, sorry.
-/
import Derived.Test.YtmljpnmaijakiaaChecked
import GoSem.Claim
import GoSem.ClaimJoined
import GoSem.ClaimMapViews
import Derived.JoinedTies
import Derived.KernelRfl
namespace Go.Proofs.Ytmljpnmaijakiaa
/- THE CELL 'sum', in the pinned program and in every row, IS THE sha256 OF THE DUMP (.gsa) THAT YtmljpnmaijakiaaProg.lean LOADS. Nothing in Lean hashes anything: it is a label: what it is worth is what the hold of that sum in a sandbox is worth. -/
noncomputable def Try.pinned : Pinned := { name := "ytmljpnmaijakiaa", sum := "eec3b2cee124b7a576f69d6cac9c43da8d08982c37dac7500ae4fa0d25252f40", checked := Try.checked }
namespace Rows
def none {H : Type} : Left H := { results := [], args := [] }

/-- 'headwordlaw02.SeeChoices': WHATEVER THE INPUT: true; the input reads as it did. -/
def seeChoicesSpec : ChangeSpec := { name := "seeChoices", fn := fun _ => fun
  | [d1, d2] => { results := [.lit (.bool true)], args := [d1, d2] }
  | _ => none }
def seeChoicesRow : OpenClaim := { program := "ytmljpnmaijakiaa", sum := "eec3b2cee124b7a576f69d6cac9c43da8d08982c37dac7500ae4fa0d25252f40", func := "headword/headwordlaw02.SeeChoices", spec := "seeChoices", unfollowed := true, recurses := true, apart := false }
def SeeChoicesSaid : Prop := seeChoicesRow.holds Try.pinned (OpenSpec.ofChange seeChoicesSpec)

/-- ITS FALSE NEIGHBOUR: 'it returns false'. Refute it at one input. -/
def seeChoicesWrong : ChangeSpec := { name := "seeChoices", fn := fun _ => fun
  | [d1, d2] => { results := [.lit (.bool false)], args := [d1, d2] }
  | _ => none }
def SeeChoicesWrongFalsely : Prop := seeChoicesRow.holds Try.pinned (OpenSpec.ofChange seeChoicesWrong)

/-- 'headwordlaw02.SeeRings': WHATEVER THE INPUT: true; the input reads as it did. -/
def seeRingsSpec : ChangeSpec := { name := "seeRings", fn := fun _ => fun
  | [d1, d2] => { results := [.lit (.bool true)], args := [d1, d2] }
  | _ => none }
def seeRingsRow : OpenClaim := { program := "ytmljpnmaijakiaa", sum := "eec3b2cee124b7a576f69d6cac9c43da8d08982c37dac7500ae4fa0d25252f40", func := "headword/headwordlaw02.SeeRings", spec := "seeRings", unfollowed := true, recurses := true, apart := false }
def SeeRingsSaid : Prop := seeRingsRow.holds Try.pinned (OpenSpec.ofChange seeRingsSpec)

/-- ITS FALSE NEIGHBOUR: 'it returns false'. Refute it at one input. -/
def seeRingsWrong : ChangeSpec := { name := "seeRings", fn := fun _ => fun
  | [d1, d2] => { results := [.lit (.bool false)], args := [d1, d2] }
  | _ => none }
def SeeRingsWrongFalsely : Prop := seeRingsRow.holds Try.pinned (OpenSpec.ofChange seeRingsWrong)

/-- 'headwordlaw02.SeeWays': WHATEVER THE INPUT: true; the input reads as it did. -/
def seeWaysSpec : ChangeSpec := { name := "seeWays", fn := fun _ => fun
  | [d1, d2, d3] => { results := [.lit (.bool true)], args := [d1, d2, d3] }
  | _ => none }
def seeWaysRow : OpenClaim := { program := "ytmljpnmaijakiaa", sum := "eec3b2cee124b7a576f69d6cac9c43da8d08982c37dac7500ae4fa0d25252f40", func := "headword/headwordlaw02.SeeWays", spec := "seeWays", unfollowed := true, recurses := true, apart := false }
def SeeWaysSaid : Prop := seeWaysRow.holds Try.pinned (OpenSpec.ofChange seeWaysSpec)

/-- ITS FALSE NEIGHBOUR: 'it returns false'. Refute it at one input. -/
def seeWaysWrong : ChangeSpec := { name := "seeWays", fn := fun _ => fun
  | [d1, d2, d3] => { results := [.lit (.bool false)], args := [d1, d2, d3] }
  | _ => none }
def SeeWaysWrongFalsely : Prop := seeWaysRow.holds Try.pinned (OpenSpec.ofChange seeWaysWrong)

/-- 'headwordlaw02.SeeCircles': WHATEVER THE INPUT: true; the input reads as it did. -/
def seeCirclesSpec : ChangeSpec := { name := "seeCircles", fn := fun _ => fun
  | [d1, d2] => { results := [.lit (.bool true)], args := [d1, d2] }
  | _ => none }
def seeCirclesRow : OpenClaim := { program := "ytmljpnmaijakiaa", sum := "eec3b2cee124b7a576f69d6cac9c43da8d08982c37dac7500ae4fa0d25252f40", func := "headword/headwordlaw02.SeeCircles", spec := "seeCircles", unfollowed := true, recurses := true, apart := false }
def SeeCirclesSaid : Prop := seeCirclesRow.holds Try.pinned (OpenSpec.ofChange seeCirclesSpec)

/-- ITS FALSE NEIGHBOUR: 'it returns false'. Refute it at one input. -/
def seeCirclesWrong : ChangeSpec := { name := "seeCircles", fn := fun _ => fun
  | [d1, d2] => { results := [.lit (.bool false)], args := [d1, d2] }
  | _ => none }
def SeeCirclesWrongFalsely : Prop := seeCirclesRow.holds Try.pinned (OpenSpec.ofChange seeCirclesWrong)

/-- 'headwordlaw02.SeeRichardson': WHATEVER THE INPUT: true; the input reads as it did. -/
def seeRichardsonSpec : ChangeSpec := { name := "seeRichardson", fn := fun _ => fun
  | [d] => { results := [.lit (.bool true)], args := [d] }
  | _ => none }
def seeRichardsonRow : OpenClaim := { program := "ytmljpnmaijakiaa", sum := "eec3b2cee124b7a576f69d6cac9c43da8d08982c37dac7500ae4fa0d25252f40", func := "headword/headwordlaw02.SeeRichardson", spec := "seeRichardson", unfollowed := true, recurses := true, apart := false }
def SeeRichardsonSaid : Prop := seeRichardsonRow.holds Try.pinned (OpenSpec.ofChange seeRichardsonSpec)

/-- ITS FALSE NEIGHBOUR: 'it returns false'. Refute it at one input. -/
def seeRichardsonWrong : ChangeSpec := { name := "seeRichardson", fn := fun _ => fun
  | [d] => { results := [.lit (.bool false)], args := [d] }
  | _ => none }
def SeeRichardsonWrongFalsely : Prop := seeRichardsonRow.holds Try.pinned (OpenSpec.ofChange seeRichardsonWrong)

/-- 'headwordlaw02.SeeTurned': WHATEVER THE INPUT: true; the input reads as it did. -/
def seeTurnedSpec : ChangeSpec := { name := "seeTurned", fn := fun _ => fun
  | [d1, d2] => { results := [.lit (.bool true)], args := [d1, d2] }
  | _ => none }
def seeTurnedRow : OpenClaim := { program := "ytmljpnmaijakiaa", sum := "eec3b2cee124b7a576f69d6cac9c43da8d08982c37dac7500ae4fa0d25252f40", func := "headword/headwordlaw02.SeeTurned", spec := "seeTurned", unfollowed := true, recurses := true, apart := false }
def SeeTurnedSaid : Prop := seeTurnedRow.holds Try.pinned (OpenSpec.ofChange seeTurnedSpec)

/-- ITS FALSE NEIGHBOUR: 'it returns false'. Refute it at one input. -/
def seeTurnedWrong : ChangeSpec := { name := "seeTurned", fn := fun _ => fun
  | [d1, d2] => { results := [.lit (.bool false)], args := [d1, d2] }
  | _ => none }
def SeeTurnedWrongFalsely : Prop := seeTurnedRow.holds Try.pinned (OpenSpec.ofChange seeTurnedWrong)

/-- 'headwordlaw02.SeeMutual': WHATEVER THE INPUT: true; the input reads as it did. -/
def seeMutualSpec : ChangeSpec := { name := "seeMutual", fn := fun _ => fun
  | [d] => { results := [.lit (.bool true)], args := [d] }
  | _ => none }
def seeMutualRow : OpenClaim := { program := "ytmljpnmaijakiaa", sum := "eec3b2cee124b7a576f69d6cac9c43da8d08982c37dac7500ae4fa0d25252f40", func := "headword/headwordlaw02.SeeMutual", spec := "seeMutual", unfollowed := true, recurses := true, apart := false }
def SeeMutualSaid : Prop := seeMutualRow.holds Try.pinned (OpenSpec.ofChange seeMutualSpec)

/-- ITS FALSE NEIGHBOUR: 'it returns false'. Refute it at one input. -/
def seeMutualWrong : ChangeSpec := { name := "seeMutual", fn := fun _ => fun
  | [d] => { results := [.lit (.bool false)], args := [d] }
  | _ => none }
def SeeMutualWrongFalsely : Prop := seeMutualRow.holds Try.pinned (OpenSpec.ofChange seeMutualWrong)

/-- 'headwordlaw02.SeeCounted': WHATEVER THE INPUT: true; the input reads as it did. -/
def seeCountedSpec : ChangeSpec := { name := "seeCounted", fn := fun _ => fun
  | [d1, d2] => { results := [.lit (.bool true)], args := [d1, d2] }
  | _ => none }
def seeCountedRow : OpenClaim := { program := "ytmljpnmaijakiaa", sum := "eec3b2cee124b7a576f69d6cac9c43da8d08982c37dac7500ae4fa0d25252f40", func := "headword/headwordlaw02.SeeCounted", spec := "seeCounted", unfollowed := true, recurses := true, apart := false }
def SeeCountedSaid : Prop := seeCountedRow.holds Try.pinned (OpenSpec.ofChange seeCountedSpec)

/-- ITS FALSE NEIGHBOUR: 'it returns false'. Refute it at one input. -/
def seeCountedWrong : ChangeSpec := { name := "seeCounted", fn := fun _ => fun
  | [d1, d2] => { results := [.lit (.bool false)], args := [d1, d2] }
  | _ => none }
def SeeCountedWrongFalsely : Prop := seeCountedRow.holds Try.pinned (OpenSpec.ofChange seeCountedWrong)

/-- 'headwordlaw02.SeeNear': WHATEVER THE INPUT: true; the input reads as it did. -/
def seeNearSpec : ChangeSpec := { name := "seeNear", fn := fun _ => fun
  | [d1, d2, d3] => { results := [.lit (.bool true)], args := [d1, d2, d3] }
  | _ => none }
def seeNearRow : OpenClaim := { program := "ytmljpnmaijakiaa", sum := "eec3b2cee124b7a576f69d6cac9c43da8d08982c37dac7500ae4fa0d25252f40", func := "headword/headwordlaw02.SeeNear", spec := "seeNear", unfollowed := true, recurses := true, apart := false }
def SeeNearSaid : Prop := seeNearRow.holds Try.pinned (OpenSpec.ofChange seeNearSpec)

/-- ITS FALSE NEIGHBOUR: 'it returns false'. Refute it at one input. -/
def seeNearWrong : ChangeSpec := { name := "seeNear", fn := fun _ => fun
  | [d1, d2, d3] => { results := [.lit (.bool false)], args := [d1, d2, d3] }
  | _ => none }
def SeeNearWrongFalsely : Prop := seeNearRow.holds Try.pinned (OpenSpec.ofChange seeNearWrong)

/-- 'headwordlaw02.SeeNamed': WHATEVER THE INPUT: true; the input reads as it did. -/
def seeNamedSpec : ChangeSpec := { name := "seeNamed", fn := fun _ => fun
  | [d1, d2] => { results := [.lit (.bool true)], args := [d1, d2] }
  | _ => none }
def seeNamedRow : OpenClaim := { program := "ytmljpnmaijakiaa", sum := "eec3b2cee124b7a576f69d6cac9c43da8d08982c37dac7500ae4fa0d25252f40", func := "headword/headwordlaw02.SeeNamed", spec := "seeNamed", unfollowed := true, recurses := true, apart := false }
def SeeNamedSaid : Prop := seeNamedRow.holds Try.pinned (OpenSpec.ofChange seeNamedSpec)

/-- ITS FALSE NEIGHBOUR: 'it returns false'. Refute it at one input. -/
def seeNamedWrong : ChangeSpec := { name := "seeNamed", fn := fun _ => fun
  | [d1, d2] => { results := [.lit (.bool false)], args := [d1, d2] }
  | _ => none }
def SeeNamedWrongFalsely : Prop := seeNamedRow.holds Try.pinned (OpenSpec.ofChange seeNamedWrong)

/-- 'headwordlaw02.SeeGrown': WHATEVER THE INPUT: true; the input reads as it did. -/
def seeGrownSpec : ChangeSpec := { name := "seeGrown", fn := fun _ => fun
  | [d1, d2] => { results := [.lit (.bool true)], args := [d1, d2] }
  | _ => none }
def seeGrownRow : OpenClaim := { program := "ytmljpnmaijakiaa", sum := "eec3b2cee124b7a576f69d6cac9c43da8d08982c37dac7500ae4fa0d25252f40", func := "headword/headwordlaw02.SeeGrown", spec := "seeGrown", unfollowed := true, recurses := true, apart := false }
def SeeGrownSaid : Prop := seeGrownRow.holds Try.pinned (OpenSpec.ofChange seeGrownSpec)

/-- ITS FALSE NEIGHBOUR: 'it returns false'. Refute it at one input. -/
def seeGrownWrong : ChangeSpec := { name := "seeGrown", fn := fun _ => fun
  | [d1, d2] => { results := [.lit (.bool false)], args := [d1, d2] }
  | _ => none }
def SeeGrownWrongFalsely : Prop := seeGrownRow.holds Try.pinned (OpenSpec.ofChange seeGrownWrong)

/-- 'headwordlaw02.SeeShown': WHATEVER THE INPUT: true; the input reads as it did. -/
def seeShownSpec : ChangeSpec := { name := "seeShown", fn := fun _ => fun
  | [d1, d2, d3] => { results := [.lit (.bool true)], args := [d1, d2, d3] }
  | _ => none }
def seeShownRow : OpenClaim := { program := "ytmljpnmaijakiaa", sum := "eec3b2cee124b7a576f69d6cac9c43da8d08982c37dac7500ae4fa0d25252f40", func := "headword/headwordlaw02.SeeShown", spec := "seeShown", unfollowed := true, recurses := true, apart := false }
def SeeShownSaid : Prop := seeShownRow.holds Try.pinned (OpenSpec.ofChange seeShownSpec)

/-- ITS FALSE NEIGHBOUR: 'it returns false'. Refute it at one input. -/
def seeShownWrong : ChangeSpec := { name := "seeShown", fn := fun _ => fun
  | [d1, d2, d3] => { results := [.lit (.bool false)], args := [d1, d2, d3] }
  | _ => none }
def SeeShownWrongFalsely : Prop := seeShownRow.holds Try.pinned (OpenSpec.ofChange seeShownWrong)

/-- 'headwordlaw02.SeeKnown': WHATEVER THE INPUT: true; the input reads as it did. -/
def seeKnownSpec : ChangeSpec := { name := "seeKnown", fn := fun _ => fun
  | [] => { results := [.lit (.bool true)], args := [] }
  | _ => none }
def seeKnownRow : OpenClaim := { program := "ytmljpnmaijakiaa", sum := "eec3b2cee124b7a576f69d6cac9c43da8d08982c37dac7500ae4fa0d25252f40", func := "headword/headwordlaw02.SeeKnown", spec := "seeKnown", unfollowed := true, recurses := true, apart := false }
def SeeKnownSaid : Prop := seeKnownRow.holds Try.pinned (OpenSpec.ofChange seeKnownSpec)

/-- ITS FALSE NEIGHBOUR: 'it returns false'. Refute it at one input. -/
def seeKnownWrong : ChangeSpec := { name := "seeKnown", fn := fun _ => fun
  | [] => { results := [.lit (.bool false)], args := [] }
  | _ => none }
def SeeKnownWrongFalsely : Prop := seeKnownRow.holds Try.pinned (OpenSpec.ofChange seeKnownWrong)

/- THE SECOND FORM. 'bulk': how many values and letters a reading holds, each counted each time it is reached (what is shared counts as often as it is met; a slice's spare places count too). A statement '..UptoSaid' is the law's where the arguments, and the package variables that the reading takes, are together of bulk at most 1048576: NARROWER than '..Said'. Prove '..Said' where nothing that the law and all that it calls make is longer than what came in: it says more and counts as full. Else prove '..UptoSaid'. A law counts once. -/
mutual
def uptoBulk {H : Type} : DataW H → Nat
  | .lit (.string bytes) => bytes.length + 1
  | .lit _ => 1
  | .nil => 1
  | .ptr d => uptoBulk d + 1
  | .slice elems spare => uptoBulkAll elems + uptoBulkAll spare + 1
  | .agg parts => uptoBulkAll parts + 1
  | .iface _ d => uptoBulk d + 1
  | .map entries => uptoBulkEntries entries + 1
  | .held _ => 1
def uptoBulkAll {H : Type} : List (DataW H) → Nat
  | [] => 0
  | d :: r => uptoBulk d + uptoBulkAll r
def uptoBulkEntries {H : Type} : List (Lit × DataW H) → Nat
  | [] => 0
  | x :: r => uptoBulkEntry x + uptoBulkEntries r
def uptoBulkEntry {H : Type} : Lit × DataW H → Nat
  | (.string bytes, d) => bytes.length + uptoBulk d + 1
  | (_, d) => uptoBulk d + 1
 end
def uptoSmall : (H : Type) → List (DataW H) → Bool := fun _ ds => decide (uptoBulkAll ds ≤ 1048576)
def OpenSpec.upto (s : _root_.Go.ChangeSpec) : _root_.Go.OpenSpec := { _root_.Go.OpenSpec.ofChange s with cond := some uptoSmall }

/-- 'headwordlaw02.SeeChoices', WHERE WHAT IT READS IS OF BULK AT MOST 1048576: true; the input reads as it did. -/
def seeChoicesUptoRow : OpenClaim := { program := "ytmljpnmaijakiaa", sum := "eec3b2cee124b7a576f69d6cac9c43da8d08982c37dac7500ae4fa0d25252f40", func := "headword/headwordlaw02.SeeChoices", spec := "seeChoices", unfollowed := true, recurses := true, apart := false, narrowed := true }
def SeeChoicesUptoSaid : Prop := seeChoicesUptoRow.holds Try.pinned (OpenSpec.upto seeChoicesSpec)

/-- 'headwordlaw02.SeeRings', WHERE WHAT IT READS IS OF BULK AT MOST 1048576: true; the input reads as it did. -/
def seeRingsUptoRow : OpenClaim := { program := "ytmljpnmaijakiaa", sum := "eec3b2cee124b7a576f69d6cac9c43da8d08982c37dac7500ae4fa0d25252f40", func := "headword/headwordlaw02.SeeRings", spec := "seeRings", unfollowed := true, recurses := true, apart := false, narrowed := true }
def SeeRingsUptoSaid : Prop := seeRingsUptoRow.holds Try.pinned (OpenSpec.upto seeRingsSpec)

/-- 'headwordlaw02.SeeWays', WHERE WHAT IT READS IS OF BULK AT MOST 1048576: true; the input reads as it did. -/
def seeWaysUptoRow : OpenClaim := { program := "ytmljpnmaijakiaa", sum := "eec3b2cee124b7a576f69d6cac9c43da8d08982c37dac7500ae4fa0d25252f40", func := "headword/headwordlaw02.SeeWays", spec := "seeWays", unfollowed := true, recurses := true, apart := false, narrowed := true }
def SeeWaysUptoSaid : Prop := seeWaysUptoRow.holds Try.pinned (OpenSpec.upto seeWaysSpec)

/-- 'headwordlaw02.SeeCircles', WHERE WHAT IT READS IS OF BULK AT MOST 1048576: true; the input reads as it did. -/
def seeCirclesUptoRow : OpenClaim := { program := "ytmljpnmaijakiaa", sum := "eec3b2cee124b7a576f69d6cac9c43da8d08982c37dac7500ae4fa0d25252f40", func := "headword/headwordlaw02.SeeCircles", spec := "seeCircles", unfollowed := true, recurses := true, apart := false, narrowed := true }
def SeeCirclesUptoSaid : Prop := seeCirclesUptoRow.holds Try.pinned (OpenSpec.upto seeCirclesSpec)

/-- 'headwordlaw02.SeeRichardson', WHERE WHAT IT READS IS OF BULK AT MOST 1048576: true; the input reads as it did. -/
def seeRichardsonUptoRow : OpenClaim := { program := "ytmljpnmaijakiaa", sum := "eec3b2cee124b7a576f69d6cac9c43da8d08982c37dac7500ae4fa0d25252f40", func := "headword/headwordlaw02.SeeRichardson", spec := "seeRichardson", unfollowed := true, recurses := true, apart := false, narrowed := true }
def SeeRichardsonUptoSaid : Prop := seeRichardsonUptoRow.holds Try.pinned (OpenSpec.upto seeRichardsonSpec)

/-- 'headwordlaw02.SeeTurned', WHERE WHAT IT READS IS OF BULK AT MOST 1048576: true; the input reads as it did. -/
def seeTurnedUptoRow : OpenClaim := { program := "ytmljpnmaijakiaa", sum := "eec3b2cee124b7a576f69d6cac9c43da8d08982c37dac7500ae4fa0d25252f40", func := "headword/headwordlaw02.SeeTurned", spec := "seeTurned", unfollowed := true, recurses := true, apart := false, narrowed := true }
def SeeTurnedUptoSaid : Prop := seeTurnedUptoRow.holds Try.pinned (OpenSpec.upto seeTurnedSpec)

/-- 'headwordlaw02.SeeMutual', WHERE WHAT IT READS IS OF BULK AT MOST 1048576: true; the input reads as it did. -/
def seeMutualUptoRow : OpenClaim := { program := "ytmljpnmaijakiaa", sum := "eec3b2cee124b7a576f69d6cac9c43da8d08982c37dac7500ae4fa0d25252f40", func := "headword/headwordlaw02.SeeMutual", spec := "seeMutual", unfollowed := true, recurses := true, apart := false, narrowed := true }
def SeeMutualUptoSaid : Prop := seeMutualUptoRow.holds Try.pinned (OpenSpec.upto seeMutualSpec)

/-- 'headwordlaw02.SeeCounted', WHERE WHAT IT READS IS OF BULK AT MOST 1048576: true; the input reads as it did. -/
def seeCountedUptoRow : OpenClaim := { program := "ytmljpnmaijakiaa", sum := "eec3b2cee124b7a576f69d6cac9c43da8d08982c37dac7500ae4fa0d25252f40", func := "headword/headwordlaw02.SeeCounted", spec := "seeCounted", unfollowed := true, recurses := true, apart := false, narrowed := true }
def SeeCountedUptoSaid : Prop := seeCountedUptoRow.holds Try.pinned (OpenSpec.upto seeCountedSpec)

/-- 'headwordlaw02.SeeNear', WHERE WHAT IT READS IS OF BULK AT MOST 1048576: true; the input reads as it did. -/
def seeNearUptoRow : OpenClaim := { program := "ytmljpnmaijakiaa", sum := "eec3b2cee124b7a576f69d6cac9c43da8d08982c37dac7500ae4fa0d25252f40", func := "headword/headwordlaw02.SeeNear", spec := "seeNear", unfollowed := true, recurses := true, apart := false, narrowed := true }
def SeeNearUptoSaid : Prop := seeNearUptoRow.holds Try.pinned (OpenSpec.upto seeNearSpec)

/-- 'headwordlaw02.SeeNamed', WHERE WHAT IT READS IS OF BULK AT MOST 1048576: true; the input reads as it did. -/
def seeNamedUptoRow : OpenClaim := { program := "ytmljpnmaijakiaa", sum := "eec3b2cee124b7a576f69d6cac9c43da8d08982c37dac7500ae4fa0d25252f40", func := "headword/headwordlaw02.SeeNamed", spec := "seeNamed", unfollowed := true, recurses := true, apart := false, narrowed := true }
def SeeNamedUptoSaid : Prop := seeNamedUptoRow.holds Try.pinned (OpenSpec.upto seeNamedSpec)

/-- 'headwordlaw02.SeeGrown', WHERE WHAT IT READS IS OF BULK AT MOST 1048576: true; the input reads as it did. -/
def seeGrownUptoRow : OpenClaim := { program := "ytmljpnmaijakiaa", sum := "eec3b2cee124b7a576f69d6cac9c43da8d08982c37dac7500ae4fa0d25252f40", func := "headword/headwordlaw02.SeeGrown", spec := "seeGrown", unfollowed := true, recurses := true, apart := false, narrowed := true }
def SeeGrownUptoSaid : Prop := seeGrownUptoRow.holds Try.pinned (OpenSpec.upto seeGrownSpec)

/-- 'headwordlaw02.SeeShown', WHERE WHAT IT READS IS OF BULK AT MOST 1048576: true; the input reads as it did. -/
def seeShownUptoRow : OpenClaim := { program := "ytmljpnmaijakiaa", sum := "eec3b2cee124b7a576f69d6cac9c43da8d08982c37dac7500ae4fa0d25252f40", func := "headword/headwordlaw02.SeeShown", spec := "seeShown", unfollowed := true, recurses := true, apart := false, narrowed := true }
def SeeShownUptoSaid : Prop := seeShownUptoRow.holds Try.pinned (OpenSpec.upto seeShownSpec)

/-- 'headwordlaw02.SeeKnown', WHERE WHAT IT READS IS OF BULK AT MOST 1048576: true; the input reads as it did. -/
def seeKnownUptoRow : OpenClaim := { program := "ytmljpnmaijakiaa", sum := "eec3b2cee124b7a576f69d6cac9c43da8d08982c37dac7500ae4fa0d25252f40", func := "headword/headwordlaw02.SeeKnown", spec := "seeKnown", unfollowed := true, recurses := true, apart := false, narrowed := true }
def SeeKnownUptoSaid : Prop := seeKnownUptoRow.holds Try.pinned (OpenSpec.upto seeKnownSpec)

end Rows
end Go.Proofs.Ytmljpnmaijakiaa
