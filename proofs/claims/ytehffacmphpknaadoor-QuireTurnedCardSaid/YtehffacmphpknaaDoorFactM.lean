/-
  Creases of all folds: mirror images, and one fold more.
-/
import Derived.Test.YtehffacmphpknaaDoorFactA
set_option linter.unusedSimpArgs false
set_option linter.unusedVariables false
namespace Go.Proofs.Quire
def mirB (f : List Bool) : Bool := (List.range (2 ^ f.length - 1)).all fun i => Nat.beq (i + 1) (2 ^ f.length / 2) || !Nat.beq ((creC f).getD i 0) ((creC f).getD (2 ^ f.length - 2 - i) 0)
theorem mir_k : ((List.range (5 + 1)).all fun k => (allF k).all mirB) = true := by kernel_rfl
/-- what a crease becomes with one fold more -/
def moreN (o : Bool) (c : List Nat) (i : Nat) : Nat := bif Nat.beq (i % 2) 1 then c.getD (i / 2) 0 else bif (Nat.beq (i % 4) 0) == o then 118 else 104
def morB (o : Bool) (f : List Bool) : Bool := (List.range (2 * 2 ^ f.length - 1)).all fun i => Nat.beq ((creC (f ++ [o])).getD i 0) (moreN o (creC f) i)
theorem moro_k : ((List.range (5 + 1)).all fun k => (allF k).all (morB true)) = true := by kernel_rfl
theorem moru_k : ((List.range (5 + 1)).all fun k => (allF k).all (morB false)) = true := by kernel_rfl
end Go.Proofs.Quire
