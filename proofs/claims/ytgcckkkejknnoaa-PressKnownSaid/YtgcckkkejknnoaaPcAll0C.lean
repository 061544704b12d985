/-
  Pieces of the run.
-/
import Derived.Test.YtgcckkkejknnoaaPcAllF
import Derived.KernelRfl
set_option linter.unusedSimpArgs false
set_option linter.unusedVariables false
namespace Go.Proofs.Ytgcckkkejknnoaa
open Go Go.Proofs.Eng Go.RowKit
def px2 : List AV := [(.sl 2 false [(.ag [(.v (.int .i64 3)), (.v (.int .i64 2))]), (.ag [(.v (.int .i64 1)), (.v (.int .i64 4))]), (.ag [(.v (.int .i64 5)), (.v (.int .i64 1))])])]
def pr2 : AV := (.tup [(.v (.int .i64 1)), (.v (.int .i64 2)), (.v (.int .i64 0))])
theorem pc2 : Runs Try.prog xf 57 px2 pr2 := Runs.execM (fr := fr) (fuel := 10000) mm0_ok 40 (by kernel_rfl)
def px5 : List AV := [(.sl 2 false [(.ag [(.v (.int .i64 2)), (.v (.int .i64 2))]), (.ag [(.v (.int .i64 2)), (.v (.int .i64 2))])])]
def pr5 : AV := (.tup [(.v (.int .i64 0)), (.v (.int .i64 0)), (.v (.int .i64 0))])
theorem pc5 : Runs Try.prog xf 57 px5 pr5 := Runs.execM (fr := fr) (fuel := 10000) mm0_ok 40 (by kernel_rfl)
def px9 : List AV := [(.sl 2 false [(.ag [(.v (.int .i64 3)), (.v (.int .i64 2))]), (.ag [(.v (.int .i64 1)), (.v (.int .i64 4))]), (.ag [(.v (.int .i64 5)), (.v (.int .i64 1))])]), (.sl 1 true [(.v (.int .i64 0)), (.v (.int .i64 1)), (.v (.int .i64 2))]), (.v (.int .i64 1)), (.v (.int .i64 2))]
def pr9 : AV := (.v (.int .i64 0))
theorem pc9 : Runs Try.prog xf 58 px9 pr9 := Runs.execM (fr := fr) (fuel := 10000) mm0_ok 40 (by kernel_rfl)
def px13 : List AV := [(.sl 2 false [(.ag [(.v (.int .i64 3)), (.v (.int .i64 2))]), (.ag [(.v (.int .i64 1)), (.v (.int .i64 4))]), (.ag [(.v (.int .i64 5)), (.v (.int .i64 1))])]), (.sl 1 true [(.v (.int .i64 0)), (.v (.int .i64 1)), (.v (.int .i64 2))])]
def pr13 : AV := (.tup [(.sl 1 false [(.v (.int .i64 3)), (.v (.int .i64 4)), (.v (.int .i64 9))]), (.sl 1 false [(.v (.int .i64 5)), (.v (.int .i64 9)), (.v (.int .i64 10))]), (.v (.int .i64 0))])
theorem pc13 : Runs Try.prog xf 46 px13 pr13 := Runs.execM (fr := fr) (fuel := 10000) mm0_ok 40 (by kernel_rfl)
end Go.Proofs.Ytgcckkkejknnoaa
