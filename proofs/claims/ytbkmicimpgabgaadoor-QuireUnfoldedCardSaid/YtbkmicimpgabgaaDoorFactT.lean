/-
  Piles of all folds: turned round, told, laid open.
-/
import Derived.Test.YtbkmicimpgabgaaDoorFactA
import Derived.Test.YtbkmicimpgabgaaDoorFolded
set_option linter.unusedSimpArgs false
set_option linter.unusedVariables false
namespace Go.Proofs.Quire
/-- with o and u exchanged: the opposite pile, the other creases -/
def turB (f : List Bool) : Bool := (pileC (f.map (!·))).reverse == pileC f && creC (f.map (!·)) == (creC f).map (222 - ·)
theorem tur_k : ((List.range (6 + 1)).all fun k => (allF k).all turB) = true := by kernel_rfl
/-- the folds that a pile tells -/
def wayB (f : List Bool) : Bool := waysOf (pileC f) == f.map wayOf
theorem way_k : ((List.range (6 + 1)).all fun k => (allF k).all wayB) = true := by kernel_rfl
/-- a column that is laid open -/
def lowO (o : Bool) (c : List Nat) : List Nat := if o then c.drop (c.length / 2) else c.take (c.length / 2)
def uppO (o : Bool) (c : List Nat) : List Nat := (if o then c.take (c.length / 2) else c.drop (c.length / 2)).reverse
def unfS (o : Bool) : List (List Nat) → List (List Nat) → List (List Nat) → List (List Nat) × List (List Nat)
  | [], l, r => (l, r)
  | c :: cs, l, r => unfS o cs (l ++ [lowO o c]) (r ++ [uppO o c])
def unf1 (o : Bool) (cs : List (List Nat)) : List (List Nat) := (unfS o cs [] []).1 ++ (unfS o cs [] []).2.reverse
def unfL : List Bool → List (List Nat) → List (List Nat)
  | [], cs => cs
  | o :: f, cs => unfL f (unf1 o cs)
def unfB (f : List Bool) : Bool := unfL f.reverse [pileC f] == (List.range (2 ^ f.length)).map fun i => [i]
theorem unf_k : ((List.range (6 + 1)).all fun k => (allF k).all unfB) = true := by kernel_rfl
end Go.Proofs.Quire
