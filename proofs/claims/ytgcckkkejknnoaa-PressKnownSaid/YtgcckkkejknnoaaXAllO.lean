/-
  Which places hold what a call owns.
-/
import Derived.Test.YtgcckkkejknnoaaEngQ
import Derived.Test.YtgcckkkejknnoaaProg
import Derived.KernelRfl
set_option linter.unusedSimpArgs false
set_option linter.unusedVariables false
namespace Go.Proofs.Ytgcckkkejknnoaa
open Go Go.Proofs.Eng
def ownT : List (Nat × List Nat) := [(46, [9]), (50, [19]), (54, [9, 10]), (59, [4]), (126, [4, 6, 7]), (130, [3, 4, 5, 6]), (132, [11, 24]), (133, [6]), (159, [5]), (184, [8]), (185, [4]), (187, [7, 10]), (188, [8]), (190, [5])]
def own (f d : Nat) : Bool := ((ownT.lookup f).getD []).contains d
end Go.Proofs.Ytgcckkkejknnoaa
