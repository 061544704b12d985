/-
  Which places hold what a call owns.
-/
import Derived.Test.YtdmffkknghianaaEngQ
import Derived.Test.YtdmffkknghianaaProg
import Derived.KernelRfl
set_option linter.unusedSimpArgs false
set_option linter.unusedVariables false
namespace Go.Proofs.Ytdmffkknghianaa
open Go Go.Proofs.Eng
def ownT : List (Nat × List Nat) := [(3, [5, 121]), (4, [3]), (5, [3, 4, 7]), (6, [9, 10, 16, 17, 19, 87]), (7, [5]), (8, [5, 7, 60]), (9, [7, 10, 13, 63]), (10, [7, 84]), (12, [4, 5]), (13, [2, 3, 4]), (14, [15]), (18, [11]), (21, [11]), (23, [5]), (30, [4]), (33, [12, 49]), (37, [10, 20]), (38, [10]), (41, [0]), (42, [0]), (43, [0]), (44, [4]), (47, [7]), (49, [7, 8]), (50, [8]), (51, [7, 8]), (53, [9, 10, 12]), (57, [12, 18]), (60, [6]), (61, [7, 9]), (65, [3, 4]), (67, [4]), (69, [7, 8]), (70, [4, 5])]
def own (f d : Nat) : Bool := ((ownT.lookup f).getD []).contains d
end Go.Proofs.Ytdmffkknghianaa
