/-
  No cell of these rows narrows 'for every input' (looked for: loops, veiled, ifaces, maps, wideKeys, modest, calm, conditions, laid).
  DERIVED. THE GIVEN ROWS OF THIS SEAT. 6 by the template 'for every input the law returns true; each argument reads behind the call as it read before'; 0 by the template 'total and deterministic' (their statements: YtimfijmkfdhlmaaTotals.lean).
  GIVEN WITH THE SEED: the statements are not yours to turn. If you find one false, say at which input.
  Laid BY PROGRAM, IN A SANDBOX (cutbox-rows.mjs): the forced cells as the released guide's own fill.sh prints them over the translation 430d28acab77317e… (all of the seat's roots in one cut). By AI agents, Wed Nov 11 2026. No macro, syntax, notation, axiom, sorry.
-/
import Derived.Test.YtimfijmkfdhlmaaChecked
import GoSem.Claim
import GoSem.ClaimJoined
import GoSem.ClaimMapViews
import Derived.JoinedTies
import Derived.KernelRfl
namespace Go.Proofs.Ytimfijmkfdhlmaa
/- THE CELL 'sum', in the pinned program and in every row, IS THE sha256 OF THE DUMP (.gsa) THAT YtimfijmkfdhlmaaProg.lean LOADS. Nothing in Lean hashes anything: it is a label: what it is worth is what the hold of that sum in a sandbox is worth. -/
noncomputable def Try.pinned : Pinned := { name := "ytimfijmkfdhlmaa", sum := "430d28acab77317e7b83bc41cd0dd9b4d15a17b623f421d2e6089bf09ef0d3be", checked := Try.checked }
namespace Rows
def none {H : Type} : Left H := { results := [], args := [] }

/-- 'headwordlaw04.FactValued': WHATEVER THE INPUT: true; the input reads as it did. -/
def factValuedSpec : ChangeSpec := { name := "factValued", fn := fun _ => fun
  | [d] => { results := [.lit (.bool true)], args := [d] }
  | _ => none }
def factValuedRow : OpenClaim := { program := "ytimfijmkfdhlmaa", sum := "430d28acab77317e7b83bc41cd0dd9b4d15a17b623f421d2e6089bf09ef0d3be", func := "headword/headwordlaw04.FactValued", spec := "factValued", unfollowed := true, recurses := true, apart := false }
def FactValuedSaid : Prop := factValuedRow.holds Try.pinned (OpenSpec.ofChange factValuedSpec)

/-- ITS FALSE NEIGHBOUR: 'it returns false'. Refute it at one input. -/
def factValuedWrong : ChangeSpec := { name := "factValued", fn := fun _ => fun
  | [d] => { results := [.lit (.bool false)], args := [d] }
  | _ => none }
def FactValuedWrongFalsely : Prop := factValuedRow.holds Try.pinned (OpenSpec.ofChange factValuedWrong)

/-- 'headwordlaw04.FactBounds': WHATEVER THE INPUT: true; the input reads as it did. -/
def factBoundsSpec : ChangeSpec := { name := "factBounds", fn := fun _ => fun
  | [d] => { results := [.lit (.bool true)], args := [d] }
  | _ => none }
def factBoundsRow : OpenClaim := { program := "ytimfijmkfdhlmaa", sum := "430d28acab77317e7b83bc41cd0dd9b4d15a17b623f421d2e6089bf09ef0d3be", func := "headword/headwordlaw04.FactBounds", spec := "factBounds", unfollowed := true, recurses := true, apart := false }
def FactBoundsSaid : Prop := factBoundsRow.holds Try.pinned (OpenSpec.ofChange factBoundsSpec)

/-- ITS FALSE NEIGHBOUR: 'it returns false'. Refute it at one input. -/
def factBoundsWrong : ChangeSpec := { name := "factBounds", fn := fun _ => fun
  | [d] => { results := [.lit (.bool false)], args := [d] }
  | _ => none }
def FactBoundsWrongFalsely : Prop := factBoundsRow.holds Try.pinned (OpenSpec.ofChange factBoundsWrong)

/-- 'headwordlaw04.FactShared': WHATEVER THE INPUT: true; the input reads as it did. -/
def factSharedSpec : ChangeSpec := { name := "factShared", fn := fun _ => fun
  | [d] => { results := [.lit (.bool true)], args := [d] }
  | _ => none }
def factSharedRow : OpenClaim := { program := "ytimfijmkfdhlmaa", sum := "430d28acab77317e7b83bc41cd0dd9b4d15a17b623f421d2e6089bf09ef0d3be", func := "headword/headwordlaw04.FactShared", spec := "factShared", unfollowed := true, recurses := true, apart := false }
def FactSharedSaid : Prop := factSharedRow.holds Try.pinned (OpenSpec.ofChange factSharedSpec)

/-- ITS FALSE NEIGHBOUR: 'it returns false'. Refute it at one input. -/
def factSharedWrong : ChangeSpec := { name := "factShared", fn := fun _ => fun
  | [d] => { results := [.lit (.bool false)], args := [d] }
  | _ => none }
def FactSharedWrongFalsely : Prop := factSharedRow.holds Try.pinned (OpenSpec.ofChange factSharedWrong)

/-- 'headwordlaw04.FactNamed': WHATEVER THE INPUT: true; the input reads as it did. -/
def factNamedSpec : ChangeSpec := { name := "factNamed", fn := fun _ => fun
  | [d1, d2] => { results := [.lit (.bool true)], args := [d1, d2] }
  | _ => none }
def factNamedRow : OpenClaim := { program := "ytimfijmkfdhlmaa", sum := "430d28acab77317e7b83bc41cd0dd9b4d15a17b623f421d2e6089bf09ef0d3be", func := "headword/headwordlaw04.FactNamed", spec := "factNamed", unfollowed := true, recurses := true, apart := false }
def FactNamedSaid : Prop := factNamedRow.holds Try.pinned (OpenSpec.ofChange factNamedSpec)

/-- ITS FALSE NEIGHBOUR: 'it returns false'. Refute it at one input. -/
def factNamedWrong : ChangeSpec := { name := "factNamed", fn := fun _ => fun
  | [d1, d2] => { results := [.lit (.bool false)], args := [d1, d2] }
  | _ => none }
def FactNamedWrongFalsely : Prop := factNamedRow.holds Try.pinned (OpenSpec.ofChange factNamedWrong)

/-- 'headwordlaw04.FactMore': WHATEVER THE INPUT: true; the input reads as it did. -/
def factMoreSpec : ChangeSpec := { name := "factMore", fn := fun _ => fun
  | [d1, d2, d3] => { results := [.lit (.bool true)], args := [d1, d2, d3] }
  | _ => none }
def factMoreRow : OpenClaim := { program := "ytimfijmkfdhlmaa", sum := "430d28acab77317e7b83bc41cd0dd9b4d15a17b623f421d2e6089bf09ef0d3be", func := "headword/headwordlaw04.FactMore", spec := "factMore", unfollowed := true, recurses := true, apart := false }
def FactMoreSaid : Prop := factMoreRow.holds Try.pinned (OpenSpec.ofChange factMoreSpec)

/-- ITS FALSE NEIGHBOUR: 'it returns false'. Refute it at one input. -/
def factMoreWrong : ChangeSpec := { name := "factMore", fn := fun _ => fun
  | [d1, d2, d3] => { results := [.lit (.bool false)], args := [d1, d2, d3] }
  | _ => none }
def FactMoreWrongFalsely : Prop := factMoreRow.holds Try.pinned (OpenSpec.ofChange factMoreWrong)

/-- 'headwordlaw04.FactGiven': WHATEVER THE INPUT: true; the input reads as it did. -/
def factGivenSpec : ChangeSpec := { name := "factGiven", fn := fun _ => fun
  | [d1, d2] => { results := [.lit (.bool true)], args := [d1, d2] }
  | _ => none }
def factGivenRow : OpenClaim := { program := "ytimfijmkfdhlmaa", sum := "430d28acab77317e7b83bc41cd0dd9b4d15a17b623f421d2e6089bf09ef0d3be", func := "headword/headwordlaw04.FactGiven", spec := "factGiven", unfollowed := true, recurses := true, apart := false }
def FactGivenSaid : Prop := factGivenRow.holds Try.pinned (OpenSpec.ofChange factGivenSpec)

/-- ITS FALSE NEIGHBOUR: 'it returns false'. Refute it at one input. -/
def factGivenWrong : ChangeSpec := { name := "factGiven", fn := fun _ => fun
  | [d1, d2] => { results := [.lit (.bool false)], args := [d1, d2] }
  | _ => none }
def FactGivenWrongFalsely : Prop := factGivenRow.holds Try.pinned (OpenSpec.ofChange factGivenWrong)

/- THE SECOND FORM. 'bulk': how many values and letters a reading holds, each counted each time it is reached (what is shared counts as often as it is met; a slice's spare places count too). A statement '..UptoSaid' is the law's where the arguments, and the package variables that the reading takes, are together of bulk at most 1048576: NARROWER than '..Said'. Prove '..Said' where nothing that the law and all that it calls make is longer than what came in: it says more and counts as full. Else prove '..UptoSaid'. A law counts once. -/
mutual
def uptoBulk {H : Type} : DataW H → Nat
  | .lit (.string bytes) => bytes.length + 1
  | .lit _ => 1
  | .nil => 1
  | .ptr d => uptoBulk d + 1
  | .slice elems spare => uptoBulkAll elems + uptoBulkAll spare + 1
  | .agg parts => uptoBulkAll parts + 1
  | .iface _ d => uptoBulk d + 1
  | .map entries => uptoBulkEntries entries + 1
  | .held _ => 1
def uptoBulkAll {H : Type} : List (DataW H) → Nat
  | [] => 0
  | d :: r => uptoBulk d + uptoBulkAll r
def uptoBulkEntries {H : Type} : List (Lit × DataW H) → Nat
  | [] => 0
  | x :: r => uptoBulkEntry x + uptoBulkEntries r
def uptoBulkEntry {H : Type} : Lit × DataW H → Nat
  | (.string bytes, d) => bytes.length + uptoBulk d + 1
  | (_, d) => uptoBulk d + 1
 end
def uptoSmall : (H : Type) → List (DataW H) → Bool := fun _ ds => decide (uptoBulkAll ds ≤ 1048576)
def OpenSpec.upto (s : _root_.Go.ChangeSpec) : _root_.Go.OpenSpec := { _root_.Go.OpenSpec.ofChange s with cond := some uptoSmall }

/-- 'headwordlaw04.FactValued', WHERE WHAT IT READS IS OF BULK AT MOST 1048576: true; the input reads as it did. -/
def factValuedUptoRow : OpenClaim := { program := "ytimfijmkfdhlmaa", sum := "430d28acab77317e7b83bc41cd0dd9b4d15a17b623f421d2e6089bf09ef0d3be", func := "headword/headwordlaw04.FactValued", spec := "factValued", unfollowed := true, recurses := true, apart := false, narrowed := true }
def FactValuedUptoSaid : Prop := factValuedUptoRow.holds Try.pinned (OpenSpec.upto factValuedSpec)

/-- 'headwordlaw04.FactBounds', WHERE WHAT IT READS IS OF BULK AT MOST 1048576: true; the input reads as it did. -/
def factBoundsUptoRow : OpenClaim := { program := "ytimfijmkfdhlmaa", sum := "430d28acab77317e7b83bc41cd0dd9b4d15a17b623f421d2e6089bf09ef0d3be", func := "headword/headwordlaw04.FactBounds", spec := "factBounds", unfollowed := true, recurses := true, apart := false, narrowed := true }
def FactBoundsUptoSaid : Prop := factBoundsUptoRow.holds Try.pinned (OpenSpec.upto factBoundsSpec)

/-- 'headwordlaw04.FactShared', WHERE WHAT IT READS IS OF BULK AT MOST 1048576: true; the input reads as it did. -/
def factSharedUptoRow : OpenClaim := { program := "ytimfijmkfdhlmaa", sum := "430d28acab77317e7b83bc41cd0dd9b4d15a17b623f421d2e6089bf09ef0d3be", func := "headword/headwordlaw04.FactShared", spec := "factShared", unfollowed := true, recurses := true, apart := false, narrowed := true }
def FactSharedUptoSaid : Prop := factSharedUptoRow.holds Try.pinned (OpenSpec.upto factSharedSpec)

/-- 'headwordlaw04.FactNamed', WHERE WHAT IT READS IS OF BULK AT MOST 1048576: true; the input reads as it did. -/
def factNamedUptoRow : OpenClaim := { program := "ytimfijmkfdhlmaa", sum := "430d28acab77317e7b83bc41cd0dd9b4d15a17b623f421d2e6089bf09ef0d3be", func := "headword/headwordlaw04.FactNamed", spec := "factNamed", unfollowed := true, recurses := true, apart := false, narrowed := true }
def FactNamedUptoSaid : Prop := factNamedUptoRow.holds Try.pinned (OpenSpec.upto factNamedSpec)

/-- 'headwordlaw04.FactMore', WHERE WHAT IT READS IS OF BULK AT MOST 1048576: true; the input reads as it did. -/
def factMoreUptoRow : OpenClaim := { program := "ytimfijmkfdhlmaa", sum := "430d28acab77317e7b83bc41cd0dd9b4d15a17b623f421d2e6089bf09ef0d3be", func := "headword/headwordlaw04.FactMore", spec := "factMore", unfollowed := true, recurses := true, apart := false, narrowed := true }
def FactMoreUptoSaid : Prop := factMoreUptoRow.holds Try.pinned (OpenSpec.upto factMoreSpec)

/-- 'headwordlaw04.FactGiven', WHERE WHAT IT READS IS OF BULK AT MOST 1048576: true; the input reads as it did. -/
def factGivenUptoRow : OpenClaim := { program := "ytimfijmkfdhlmaa", sum := "430d28acab77317e7b83bc41cd0dd9b4d15a17b623f421d2e6089bf09ef0d3be", func := "headword/headwordlaw04.FactGiven", spec := "factGiven", unfollowed := true, recurses := true, apart := false, narrowed := true }
def FactGivenUptoSaid : Prop := factGivenUptoRow.holds Try.pinned (OpenSpec.upto factGivenSpec)

end Rows
end Go.Proofs.Ytimfijmkfdhlmaa
