/-
  Which places hold what a call owns.
-/
import Derived.Test.YtkaoelhhabecnaaEngQ
import Derived.Test.YtkaoelhhabecnaaProg
import Derived.KernelRfl
set_option linter.unusedSimpArgs false
set_option linter.unusedVariables false
namespace Go.Proofs.Ytkaoelhhabecnaa
open Go Go.Proofs.Eng
def ownT : List (Nat × List Nat) := [(3, [9, 14, 18]), (4, [6, 7, 11]), (8, [9]), (10, [10]), (15, [4]), (16, [8, 9]), (18, [0]), (19, [21]), (21, [5]), (27, [0]), (35, [9]), (36, [11]), (45, [7]), (48, [6, 7]), (49, [13]), (52, [16]), (62, [7, 9, 10, 23])]
def own (f d : Nat) : Bool := ((ownT.lookup f).getD []).contains d
end Go.Proofs.Ytkaoelhhabecnaa
