/-
  Which places hold what a call owns.
-/
import Derived.Test.YtlgmabgpfaajhaaEngQ
import Derived.Test.YtlgmabgpfaajhaaProg
import Derived.KernelRfl
set_option linter.unusedSimpArgs false
set_option linter.unusedVariables false
namespace Go.Proofs.Ytlgmabgpfaajhaa
open Go Go.Proofs.Eng
def ownT : List (Nat × List Nat) := [(4, [107]), (5, [8]), (6, [9]), (7, [9]), (12, [19]), (15, [9, 10]), (16, [5]), (18, [4, 6, 7]), (21, [7, 10]), (35, [4]), (38, [8]), (39, [4]), (41, [5]), (42, [3, 4, 5, 6]), (43, [11, 24]), (44, [6]), (51, [8])]
def own (f d : Nat) : Bool := ((ownT.lookup f).getD []).contains d
end Go.Proofs.Ytlgmabgpfaajhaa
