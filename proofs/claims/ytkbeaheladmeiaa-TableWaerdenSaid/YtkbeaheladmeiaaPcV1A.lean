/-
  Pieces of the run.
-/
import Derived.Test.YtkbeaheladmeiaaPcV0M
import Derived.KernelRfl
set_option linter.unusedSimpArgs false
set_option linter.unusedVariables false
namespace Go.Proofs.Ytkbeaheladmeiaa
open Go Go.Proofs.Eng Go.RowKit
def px25 : List AV := [(.sl 1 true [(.sl 1 true [(.v (.int .i64 2)), (.v (.int .i64 1)), (.v (.int .i64 1))]), (.sl 1 true [(.v (.int .i64 1)), (.v (.int .i64 2)), (.v (.int .i64 1))]), (.sl 1 true [(.v (.int .i64 1)), (.v (.int .i64 1)), (.v (.int .i64 2))])])]
def pr25 : AV := (.tup [(.v (.int .i64 16)), (.v (.int .i64 0))])
theorem pc25 : Runs Try.prog xf 36 px25 pr25 := Runs.execM (fr := fr) (fuel := 10000) mm1_ok 40 (by kernel_rfl)
end Go.Proofs.Ytkbeaheladmeiaa
