/-
  Pieces of the run.
-/
import Derived.Test.YtimfijmkfdhlmaaPcW0M
import Derived.KernelRfl
set_option linter.unusedSimpArgs false
set_option linter.unusedVariables false
namespace Go.Proofs.Ytimfijmkfdhlmaa
open Go Go.Proofs.Eng Go.RowKit
def px70 : List AV := [(.ag [(.v (.int .i64 6)), (.sl 2 false [(.ag [(.v (.int .i64 0)), (.v (.int .i64 1))]), (.ag [(.v (.int .i64 0)), (.v (.int .i64 2))]), (.ag [(.v (.int .i64 0)), (.v (.int .i64 3))]), (.ag [(.v (.int .i64 3)), (.v (.int .i64 4))]), (.ag [(.v (.int .i64 3)), (.v (.int .i64 5))]), (.ag [(.v (.int .i64 4)), (.v (.int .i64 5))])])])]
def pr70 : AV := (.tup [(.sl 1 false [(.v (.int .i64 0))]), (.sl 1 false [(.v (.int .i64 1)), (.v (.int .i64 2))]), (.v (.int .i64 0))])
theorem pc70 : Runs Try.prog xf 14 px70 pr70 := Runs.execM (fr := fr) (fuel := 10000) mm1_ok 40 (by kernel_rfl)
end Go.Proofs.Ytimfijmkfdhlmaa
