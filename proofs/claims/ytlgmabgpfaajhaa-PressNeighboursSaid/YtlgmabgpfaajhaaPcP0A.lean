/-
  Pieces of the run.
-/
import Derived.Test.YtlgmabgpfaajhaaPcPF
import Derived.KernelRfl
set_option linter.unusedSimpArgs false
set_option linter.unusedVariables false
namespace Go.Proofs.Ytlgmabgpfaajhaa
open Go Go.Proofs.Eng Go.RowKit
def px0 : List AV := [(.sl 2 false [(.ag [(.v (.int .i64 3)), (.v (.int .i64 2))]), (.ag [(.v (.int .i64 1)), (.v (.int .i64 4))]), (.ag [(.v (.int .i64 5)), (.v (.int .i64 1))])])]
def pr0 : AV := (.tup [(.sl 1 false [(.v (.int .i64 0)), (.v (.int .i64 1)), (.v (.int .i64 2))]), (.v (.int .i64 0))])
theorem pc0 : Runs Try.prog xf 27 px0 pr0 := Runs.execM (fr := fr) (fuel := 10000) mm0_ok 40 (by kernel_rfl)
end Go.Proofs.Ytlgmabgpfaajhaa
