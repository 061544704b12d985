/-
  Which places hold what a call owns.
-/
import Derived.Test.YtdbodafhpmmnhaaEngQ
import Derived.Test.YtdbodafhpmmnhaaProg
import Derived.KernelRfl
set_option linter.unusedSimpArgs false
set_option linter.unusedVariables false
namespace Go.Proofs.Ytdbodafhpmmnhaa
open Go Go.Proofs.Eng
def ownT : List (Nat × List Nat) := [(3, [7, 8]), (4, [4, 5, 7, 8]), (5, [2, 3, 5]), (8, [16]), (11, [4]), (15, [0]), (16, [13]), (17, [7]), (18, [0]), (21, [18]), (22, [0]), (25, [9]), (26, [4]), (32, [4, 5]), (33, [5]), (34, [5, 9]), (37, [5]), (40, [12, 25, 29]), (41, [6]), (42, [9, 11]), (45, [24]), (52, [7, 30]), (57, [9]), (58, [11]), (68, [5])]
def own (f d : Nat) : Bool := ((ownT.lookup f).getD []).contains d
end Go.Proofs.Ytdbodafhpmmnhaa
