/-
  All pieces together.
-/
import Derived.Test.YthhhibpnhokjfabPcL1M
import Derived.KernelRfl
set_option linter.unusedSimpArgs false
set_option linter.unusedVariables false
namespace Go.Proofs.Ythhhibpnhokjfab
open Go Go.Proofs.Eng Go.RowKit
def mmAll : Memo := mm2
theorem mmAll_ok : MemoOK Try.prog xf mmAll := mm2_ok
end Go.Proofs.Ythhhibpnhokjfab
