/-
  Pieces of the run.
-/
import Derived.Test.YtdbodafhpmmnhaaPcWF
import Derived.KernelRfl
set_option linter.unusedSimpArgs false
set_option linter.unusedVariables false
namespace Go.Proofs.Ytdbodafhpmmnhaa
open Go Go.Proofs.Eng Go.RowKit
def px3 : List AV := [(.ag [(.v (.int .i64 4)), (.sl 2 false [(.ag [(.v (.int .i64 0)), (.v (.int .i64 1))]), (.ag [(.v (.int .i64 1)), (.v (.int .i64 0))]), (.ag [(.v (.int .i64 1)), (.v (.int .i64 2))]), (.ag [(.v (.int .i64 2)), (.v (.int .i64 3))]), (.ag [(.v (.int .i64 3)), (.v (.int .i64 2))])])])]
def pr3 : AV := (.tup [(.sl 1 false [(.sl 1 false [(.v (.int .i64 0)), (.v (.int .i64 2))]), (.sl 1 false [(.v (.int .i64 0)), (.v (.int .i64 3))]), (.sl 1 false [(.v (.int .i64 1)), (.v (.int .i64 3))])]), (.v (.int .i64 0))])
theorem pc3 : Runs Try.prog xf 16 px3 pr3 := Runs.execM (fr := fr) (fuel := 10000) mm0_ok 40 (by kernel_rfl)
def px4 : List AV := [(.ag [(.v (.int .i64 3)), (.sl 2 false [(.ag [(.v (.int .i64 0)), (.v (.int .i64 1))]), (.ag [(.v (.int .i64 1)), (.v (.int .i64 2))])])])]
def pr4 : AV := (.tup [(.sl 1 false [(.v (.int .i64 0)), (.v (.int .i64 1)), (.v (.int .i64 0))]), (.v (.int .i64 0))])
theorem pc4 : Runs Try.prog xf 21 px4 pr4 := Runs.execM (fr := fr) (fuel := 10000) mm0_ok 40 (by kernel_rfl)
end Go.Proofs.Ytdbodafhpmmnhaa
