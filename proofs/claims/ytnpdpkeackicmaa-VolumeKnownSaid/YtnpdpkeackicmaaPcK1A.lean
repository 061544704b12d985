/-
  Pieces of the run.
-/
import Derived.Test.YtnpdpkeackicmaaPcK0M
import Derived.KernelRfl
set_option linter.unusedSimpArgs false
set_option linter.unusedVariables false
namespace Go.Proofs.Ytnpdpkeackicmaa
open Go Go.Proofs.Eng Go.RowKit
def px14 : List AV := []
def pr14 : AV := (.v (.bool true))
theorem pc14 : Runs Try.prog xf 23 px14 pr14 := Runs.execM (fr := fr) (fuel := 10000) mm1_ok 40 (by kernel_rfl)
end Go.Proofs.Ytnpdpkeackicmaa
