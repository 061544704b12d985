/-
  Which places hold what a call owns.
-/
import Derived.Test.YtnpdpkeackicmaaEngQ
import Derived.Test.YtnpdpkeackicmaaProg
import Derived.KernelRfl
set_option linter.unusedSimpArgs false
set_option linter.unusedVariables false
namespace Go.Proofs.Ytnpdpkeackicmaa
open Go Go.Proofs.Eng
def ownT : List (Nat × List Nat) := [(3, [3, 5, 9, 10, 16]), (4, [3, 4, 5, 6]), (5, [3, 7, 12]), (6, [3, 5, 6, 7, 12]), (7, [5, 21]), (8, [5, 6, 7, 8]), (9, [5, 7]), (10, [5, 7]), (11, [17, 18]), (12, [6, 7, 11]), (14, [21]), (15, [4]), (18, [4]), (21, [9]), (22, [10]), (25, [5]), (29, [5]), (38, [5]), (40, [0]), (41, [0]), (43, [6, 7]), (44, [8, 9]), (46, [16]), (50, [9]), (52, [13]), (59, [7]), (61, [7, 9, 10, 23])]
def own (f d : Nat) : Bool := ((ownT.lookup f).getD []).contains d
end Go.Proofs.Ytnpdpkeackicmaa
