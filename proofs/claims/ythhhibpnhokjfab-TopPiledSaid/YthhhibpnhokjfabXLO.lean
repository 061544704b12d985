/-
  Which places hold what a call owns.
-/
import Derived.Test.YthhhibpnhokjfabEngQ
import Derived.Test.YthhhibpnhokjfabProg
import Derived.KernelRfl
set_option linter.unusedSimpArgs false
set_option linter.unusedVariables false
namespace Go.Proofs.Ythhhibpnhokjfab
open Go Go.Proofs.Eng
def ownT : List (Nat × List Nat) := [(3, [9, 16]), (6, [13]), (9, [18]), (13, [7]), (15, [4]), (16, [5]), (17, [5, 9]), (22, [12, 25, 29]), (25, [6]), (26, [9, 11]), (30, [9, 12, 14]), (31, [18]), (39, [7, 30]), (41, [5]), (45, [10]), (46, [11]), (51, [9]), (52, [11]), (63, [5]), (64, [21]), (65, [18]), (67, [13])]
def own (f d : Nat) : Bool := ((ownT.lookup f).getD []).contains d
end Go.Proofs.Ythhhibpnhokjfab
