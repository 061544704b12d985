/-
  Which places hold what a call owns.
-/
import Derived.Test.YtkbeaheladmeiaaEngQ
import Derived.Test.YtkbeaheladmeiaaProg
import Derived.KernelRfl
set_option linter.unusedSimpArgs false
set_option linter.unusedVariables false
namespace Go.Proofs.Ytkbeaheladmeiaa
open Go Go.Proofs.Eng
def ownT : List (Nat × List Nat) := [(5, [86]), (12, [19]), (14, [18]), (19, [9]), (25, [8]), (34, [5]), (35, [11]), (36, [5]), (38, [5]), (48, [4]), (54, [24]), (55, [8]), (56, [3]), (58, [8]), (59, [11, 23]), (61, [6, 14]), (64, [24]), (65, [7, 37]), (66, [6, 8]), (70, [40])]
def own (f d : Nat) : Bool := ((ownT.lookup f).getD []).contains d
end Go.Proofs.Ytkbeaheladmeiaa
