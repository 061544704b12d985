/-
  Pieces of the run.
-/
import Derived.Test.YtdbodafhpmmnhaaPcWF
import Derived.KernelRfl
set_option linter.unusedSimpArgs false
set_option linter.unusedVariables false
namespace Go.Proofs.Ytdbodafhpmmnhaa
open Go Go.Proofs.Eng Go.RowKit
def px2 : List AV := [(.ag [(.v (.int .i64 4)), (.sl 2 false [(.ag [(.v (.int .i64 0)), (.v (.int .i64 1))]), (.ag [(.v (.int .i64 1)), (.v (.int .i64 0))]), (.ag [(.v (.int .i64 1)), (.v (.int .i64 2))]), (.ag [(.v (.int .i64 2)), (.v (.int .i64 3))]), (.ag [(.v (.int .i64 3)), (.v (.int .i64 2))])])])]
def pr2 : AV := (.tup [(.sl 1 false [(.v (.int .i64 0)), (.v (.int .i64 2))]), (.v (.int .i64 0))])
theorem pc2 : Runs Try.prog xf 14 px2 pr2 := Runs.execM (fr := fr) (fuel := 10000) mm0_ok 40 (by kernel_rfl)
def px5 : List AV := [(.ag [(.v (.int .i64 3)), (.sl 2 false [(.ag [(.v (.int .i64 0)), (.v (.int .i64 1))]), (.ag [(.v (.int .i64 1)), (.v (.int .i64 2))])])])]
def pr5 : AV := (.tup [(.v (.slice none 0 0)), (.v (.int .i64 13))])
theorem pc5 : Runs Try.prog xf 17 px5 pr5 := Runs.execM (fr := fr) (fuel := 10000) mm0_ok 40 (by kernel_rfl)
def px10 : List AV := [(.ag [(.v (.int .i64 4)), (.sl 2 false [(.ag [(.v (.int .i64 0)), (.v (.int .i64 1))]), (.ag [(.v (.int .i64 1)), (.v (.int .i64 0))]), (.ag [(.v (.int .i64 1)), (.v (.int .i64 2))]), (.ag [(.v (.int .i64 2)), (.v (.int .i64 3))]), (.ag [(.v (.int .i64 3)), (.v (.int .i64 2))])])]), (.sl 1 true [(.v (.int .i64 0)), (.v (.int .i64 1))])]
def pr10 : AV := (.v (.int .i64 13))
theorem pc10 : Runs Try.prog xf 30 px10 pr10 := Runs.execM (fr := fr) (fuel := 10000) mm0_ok 40 (by kernel_rfl)
end Go.Proofs.Ytdbodafhpmmnhaa
