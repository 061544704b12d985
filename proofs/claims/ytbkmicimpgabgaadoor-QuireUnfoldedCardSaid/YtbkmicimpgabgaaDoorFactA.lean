/-
  What holds of all folds: how it is looked up.
-/
import Derived.Test.YtbkmicimpgabgaaDoorClosed
set_option linter.unusedSimpArgs false
set_option linter.unusedVariables false
namespace Go.Proofs.Quire
theorem range_all {n : Nat} {P : Nat → Bool} (h : (List.range n).all P = true) {k : Nat} (hk : k < n) : P k = true := List.all_eq_true.1 h k (List.mem_range.2 hk)
theorem folds_all {n : Nat} {P : List Bool → Bool} (h : ((List.range (n + 1)).all fun k => (allF k).all P) = true) (f : List Bool) (hf : f.length ≤ n) : P f = true :=
  all_of (range_all h (show f.length < n + 1 by omega)) f rfl
end Go.Proofs.Quire
