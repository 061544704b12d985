/-
  Pieces of the run.
-/
import Derived.Test.YtdbodafhpmmnhaaPcWF
import Derived.KernelRfl
set_option linter.unusedSimpArgs false
set_option linter.unusedVariables false
namespace Go.Proofs.Ytdbodafhpmmnhaa
open Go Go.Proofs.Eng Go.RowKit
def px0 : List AV := [(.ag [(.v (.int .i64 3)), (.sl 2 false [(.ag [(.v (.int .i64 0)), (.v (.int .i64 1))]), (.ag [(.v (.int .i64 1)), (.v (.int .i64 2))]), (.ag [(.v (.int .i64 2)), (.v (.int .i64 0))])])])]
def pr0 : AV := (.sl 1 false [(.ifc 73 (.sl 1 true [(.v (.int .i64 0))])), (.ifc 73 (.sl 1 true [(.v (.int .i64 1))])), (.ifc 73 (.sl 1 true [(.v (.int .i64 2))])), (.ifc 73 (.sl 1 false [(.v (.int .i64 0)), (.v (.int .i64 1))])), (.ifc 73 (.sl 1 false [(.v (.int .i64 1)), (.v (.int .i64 2))])), (.ifc 73 (.sl 1 false [(.v (.int .i64 2)), (.v (.int .i64 0))])), (.ifc 73 (.sl 1 false [(.v (.int .i64 0)), (.v (.int .i64 1)), (.v (.int .i64 2))])), (.ifc 75 (.ag [(.sl 1 false [(.v (.int .i64 0)), (.v (.int .i64 1)), (.v (.int .i64 2))])])), (.ifc 73 (.sl 1 false [(.v (.int .i64 1)), (.v (.int .i64 2)), (.v (.int .i64 0))])), (.ifc 73 (.sl 1 false [(.v (.int .i64 2)), (.v (.int .i64 0)), (.v (.int .i64 1))]))])
theorem pc0 : Runs Try.prog xf 37 px0 pr0 := Runs.execM (fr := fr) (fuel := 10000) mm0_ok 40 (by kernel_rfl)
def px7 : List AV := [(.ag [(.v (.int .i64 3)), (.sl 2 false [(.ag [(.v (.int .i64 0)), (.v (.int .i64 1))]), (.ag [(.v (.int .i64 1)), (.v (.int .i64 2))]), (.ag [(.v (.int .i64 2)), (.v (.int .i64 0))])])])]
def pr7 : AV := (.tup [(.v (.slice none 0 0)), (.v (.int .i64 12))])
theorem pc7 : Runs Try.prog xf 14 px7 pr7 := Runs.execM (fr := fr) (fuel := 10000) mm0_ok 40 (by kernel_rfl)
def px8 : List AV := [(.ag [(.v (.int .i64 4)), (.sl 2 false [(.ag [(.v (.int .i64 0)), (.v (.int .i64 1))]), (.ag [(.v (.int .i64 1)), (.v (.int .i64 0))]), (.ag [(.v (.int .i64 1)), (.v (.int .i64 2))]), (.ag [(.v (.int .i64 2)), (.v (.int .i64 3))]), (.ag [(.v (.int .i64 3)), (.v (.int .i64 2))])])]), (.sl 1 true [(.v (.int .i64 0))]), (.v (.int .i64 3))]
def pr8 : AV := (.tup [(.v (.slice none 0 0)), (.v (.int .i64 12))])
theorem pc8 : Runs Try.prog xf 19 px8 pr8 := Runs.execM (fr := fr) (fuel := 10000) mm0_ok 40 (by kernel_rfl)
def px12 : List AV := [(.ag [(.v (.int .i64 3)), (.sl 2 false [(.ag [(.v (.int .i64 0)), (.v (.int .i64 1))]), (.ag [(.v (.int .i64 1)), (.v (.int .i64 2))]), (.ag [(.v (.int .i64 2)), (.v (.int .i64 0))])])]), (.sl 1 true [(.v (.int .i64 0)), (.v (.int .i64 2)), (.v (.int .i64 1))])]
def pr12 : AV := (.v (.int .i64 14))
theorem pc12 : Runs Try.prog xf 7 px12 pr12 := Runs.execM (fr := fr) (fuel := 10000) mm0_ok 40 (by kernel_rfl)
end Go.Proofs.Ytdbodafhpmmnhaa
