/-
  Pieces of the run.
-/
import Derived.Test.YtkbeaheladmeiaaPcV0M
import Derived.KernelRfl
set_option linter.unusedSimpArgs false
set_option linter.unusedVariables false
namespace Go.Proofs.Ytkbeaheladmeiaa
open Go Go.Proofs.Eng Go.RowKit
def px27 : List AV := [(.sl 1 true [(.sl 1 true [(.v (.int .i64 2)), (.v (.int .i64 1)), (.v (.int .i64 1))]), (.sl 1 true [(.v (.int .i64 1)), (.v (.int .i64 2)), (.v (.int .i64 1))]), (.sl 1 true [(.v (.int .i64 1)), (.v (.int .i64 1)), (.v (.int .i64 2))])])]
def pr27 : AV := (.tup [(.sl 2 false [(.ag [(.sl 1 false [(.v (.int .i64 0)), (.v (.int .i64 1)), (.v (.int .i64 2))]), (.v (.int .i64 2))]), (.ag [(.sl 1 false [(.v (.int .i64 1)), (.v (.int .i64 2)), (.v (.int .i64 0))]), (.v (.int .i64 1))]), (.ag [(.sl 1 false [(.v (.int .i64 2)), (.v (.int .i64 0)), (.v (.int .i64 1))]), (.v (.int .i64 1))])]), (.v (.int .i64 0))])
theorem pc27 : Runs Try.prog xf 14 px27 pr27 := Runs.execM (fr := fr) (fuel := 10000) mm1_ok 40 (by kernel_rfl)
end Go.Proofs.Ytkbeaheladmeiaa
