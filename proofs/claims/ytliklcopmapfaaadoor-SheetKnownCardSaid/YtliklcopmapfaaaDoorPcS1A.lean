/-
  Pieces of the run.
-/
import Derived.Test.YtliklcopmapfaaaDoorPcS0M
import Derived.KernelRfl
set_option linter.unusedSimpArgs false
set_option linter.unusedVariables false
namespace Go.Proofs.YtliklcopmapfaaaDoor
open Go Go.Proofs.Eng Go.RowKit
def px22 : List AV := []
def pr22 : AV := (.v (.bool true))
theorem pc22 : Runs Tryd.prog xf 16 px22 pr22 := Runs.execM (fr := fr) (fuel := 10000) mm1_ok 40 (by kernel_rfl)
end Go.Proofs.YtliklcopmapfaaaDoor
