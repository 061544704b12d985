/-
  Which places hold what a call owns.
-/
import Derived.Test.YtlfkldemainjnaaEngQ
import Derived.Test.YtlfkldemainjnaaProg
import Derived.KernelRfl
set_option linter.unusedSimpArgs false
set_option linter.unusedVariables false
namespace Go.Proofs.Ytlfkldemainjnaa
open Go Go.Proofs.Eng
def ownT : List (Nat × List Nat) := [(3, [9, 18, 20, 22]), (4, [5, 23]), (5, [4, 5, 7, 8]), (12, [14]), (13, [6]), (20, [4]), (22, [6]), (23, [5]), (25, [0]), (29, [17]), (31, [2, 8, 10]), (36, [0]), (37, [3, 4, 5]), (39, [6]), (41, [4, 5]), (42, [7, 8, 9]), (45, [3, 4]), (46, [8]), (48, [5])]
def own (f d : Nat) : Bool := ((ownT.lookup f).getD []).contains d
end Go.Proofs.Ytlfkldemainjnaa
