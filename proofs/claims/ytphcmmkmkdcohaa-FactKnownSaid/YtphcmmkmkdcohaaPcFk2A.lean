/-
  Pieces of the run.
-/
import Derived.Test.YtphcmmkmkdcohaaPcFk1M
import Derived.KernelRfl
set_option linter.unusedSimpArgs false
set_option linter.unusedVariables false
namespace Go.Proofs.Ytphcmmkmkdcohaa
open Go Go.Proofs.Eng Go.RowKit
def px94 : List AV := []
def pr94 : AV := (.v (.bool true))
theorem pc94 : Runs Try.prog xf 24 px94 pr94 := Runs.execM (fr := fr) (fuel := 10000) mm2_ok 40 (by kernel_rfl)
end Go.Proofs.Ytphcmmkmkdcohaa
