/-
  Which places hold what a call owns.
-/
import Derived.Test.YtphcmmkmkdcohaaEngQ
import Derived.Test.YtphcmmkmkdcohaaProg
import Derived.KernelRfl
set_option linter.unusedSimpArgs false
set_option linter.unusedVariables false
namespace Go.Proofs.Ytphcmmkmkdcohaa
open Go Go.Proofs.Eng
def ownT : List (Nat × List Nat) := [(3, [23]), (8, [0]), (9, [0]), (10, [4, 5]), (16, [17]), (18, [2, 8, 10]), (21, [0]), (23, [4]), (24, [14]), (80, [3, 4, 5]), (81, [7, 8, 9]), (82, [6]), (84, [5]), (86, [3, 4]), (87, [8]), (90, [6]), (152, [5])]
def own (f d : Nat) : Bool := ((ownT.lookup f).getD []).contains d
end Go.Proofs.Ytphcmmkmkdcohaa
