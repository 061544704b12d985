/-
  Which places hold what a call owns.
-/
import Derived.Test.YtimfijmkfdhlmaaEngQ
import Derived.Test.YtimfijmkfdhlmaaProg
import Derived.KernelRfl
set_option linter.unusedSimpArgs false
set_option linter.unusedVariables false
namespace Go.Proofs.Ytimfijmkfdhlmaa
open Go Go.Proofs.Eng
def ownT : List (Nat × List Nat) := [(5, [3, 4, 5, 6]), (8, [5, 23]), (9, [4, 5, 7, 8]), (15, [2, 8, 10]), (18, [14]), (22, [10, 12]), (31, [6]), (35, [4]), (36, [7, 8, 9]), (37, [6]), (40, [8]), (41, [0]), (42, [17]), (45, [0]), (48, [3, 4, 5]), (53, [5]), (58, [6]), (63, [5]), (64, [4, 5]), (65, [3, 4])]
def own (f d : Nat) : Bool := ((ownT.lookup f).getD []).contains d
end Go.Proofs.Ytimfijmkfdhlmaa
