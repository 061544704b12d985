/-
  Which places hold what a call owns.
-/
import Derived.Test.YtliklcopmapfaaaDoorEngQ
import Derived.Test.YtliklcopmapfaaaDoorProg
import Derived.KernelRfl
set_option linter.unusedSimpArgs false
set_option linter.unusedVariables false
namespace Go.Proofs.YtliklcopmapfaaaDoor
open Go Go.Proofs.Eng
def ownT : List (Nat × List Nat) := [(4, [13, 22]), (6, [26]), (8, [8]), (9, [8, 26, 42]), (10, [7]), (15, [16, 31]), (16, [27, 49, 56, 89, 91, 93, 127, 129, 164, 170, 180, 190, 196, 198, 200, 240]), (18, [15]), (19, [1]), (20, [10, 36]), (21, [1]), (24, [1]), (31, [9]), (33, [10, 11]), (34, [6, 12]), (36, [9]), (37, [8, 9]), (38, [6, 7]), (40, [1]), (58, [9, 13, 14]), (62, [5])]
def own (f d : Nat) : Bool := ((ownT.lookup f).getD []).contains d
end Go.Proofs.YtliklcopmapfaaaDoor
