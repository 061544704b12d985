/-
  Pieces of the run.
-/
import Derived.Test.YtdbodafhpmmnhaaPcW0M
import Derived.KernelRfl
set_option linter.unusedSimpArgs false
set_option linter.unusedVariables false
namespace Go.Proofs.Ytdbodafhpmmnhaa
open Go Go.Proofs.Eng Go.RowKit
def px13 : List AV := [(.ag [(.v (.int .i64 4)), (.sl 2 false [(.ag [(.v (.int .i64 0)), (.v (.int .i64 1))]), (.ag [(.v (.int .i64 1)), (.v (.int .i64 0))]), (.ag [(.v (.int .i64 1)), (.v (.int .i64 2))]), (.ag [(.v (.int .i64 2)), (.v (.int .i64 3))]), (.ag [(.v (.int .i64 3)), (.v (.int .i64 2))])])])]
def pr13 : AV := (.sl 1 false [(.ifc 73 (.sl 1 true [(.v (.int .i64 0))])), (.ifc 73 (.sl 1 true [(.v (.int .i64 1))])), (.ifc 73 (.sl 1 true [(.v (.int .i64 2))])), (.ifc 73 (.sl 1 true [(.v (.int .i64 3))])), (.ifc 73 (.sl 1 false [(.v (.int .i64 0)), (.v (.int .i64 1))])), (.ifc 93 (.ag [(.sl 1 false [(.v (.int .i64 0)), (.v (.int .i64 1))])])), (.ifc 73 (.sl 1 false [(.v (.int .i64 1)), (.v (.int .i64 0))])), (.ifc 73 (.sl 1 false [(.v (.int .i64 1)), (.v (.int .i64 2))])), (.ifc 73 (.sl 1 false [(.v (.int .i64 2)), (.v (.int .i64 3))])), (.ifc 93 (.ag [(.sl 1 false [(.v (.int .i64 2)), (.v (.int .i64 3))])])), (.ifc 73 (.sl 1 false [(.v (.int .i64 3)), (.v (.int .i64 2))])), (.ifc 73 (.sl 1 false [(.v (.int .i64 0)), (.v (.int .i64 1)), (.v (.int .i64 2))])), (.ifc 73 (.sl 1 false [(.v (.int .i64 1)), (.v (.int .i64 2)), (.v (.int .i64 3))])), (.ifc 73 (.sl 1 false [(.v (.int .i64 0)), (.v (.int .i64 1)), (.v (.int .i64 2)), (.v (.int .i64 3))]))])
theorem pc13 : Runs Try.prog xf 37 px13 pr13 := Runs.execM (fr := fr) (fuel := 10000) mm1_ok 40 (by kernel_rfl)
end Go.Proofs.Ytdbodafhpmmnhaa
