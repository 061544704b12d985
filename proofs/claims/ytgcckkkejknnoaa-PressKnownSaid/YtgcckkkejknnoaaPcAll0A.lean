/-
  Pieces of the run.
-/
import Derived.Test.YtgcckkkejknnoaaPcAllF
import Derived.KernelRfl
set_option linter.unusedSimpArgs false
set_option linter.unusedVariables false
namespace Go.Proofs.Ytgcckkkejknnoaa
open Go Go.Proofs.Eng Go.RowKit
def px0 : List AV := [(.sl 2 false [(.ag [(.v (.int .i64 3)), (.v (.int .i64 2))]), (.ag [(.v (.int .i64 1)), (.v (.int .i64 4))]), (.ag [(.v (.int .i64 5)), (.v (.int .i64 1))])])]
def pr0 : AV := (.tup [(.sl 1 false [(.v (.int .i64 0)), (.v (.int .i64 1)), (.v (.int .i64 2))]), (.v (.int .i64 0))])
theorem pc0 : Runs Try.prog xf 51 px0 pr0 := Runs.execM (fr := fr) (fuel := 10000) mm0_ok 40 (by kernel_rfl)
def px8 : List AV := [(.sl 2 false [(.ag [(.v (.int .i64 3)), (.v (.int .i64 2))]), (.ag [(.v (.int .i64 1)), (.v (.int .i64 4))]), (.ag [(.v (.int .i64 5)), (.v (.int .i64 1))])]), (.sl 1 true [(.v (.int .i64 0)), (.v (.int .i64 1)), (.v (.int .i64 2))]), (.v (.int .i64 0)), (.v (.int .i64 0))]
def pr8 : AV := (.v (.int .i64 14))
theorem pc8 : Runs Try.prog xf 58 px8 pr8 := Runs.execM (fr := fr) (fuel := 10000) mm0_ok 40 (by kernel_rfl)
def px11 : List AV := [(.sl 2 false [(.ag [(.v (.int .i64 3)), (.v (.int .i64 2))]), (.ag [(.v (.int .i64 1)), (.v (.int .i64 4))]), (.ag [(.v (.int .i64 5)), (.v (.int .i64 1))])]), (.sl 1 true [(.v (.int .i64 0)), (.v (.int .i64 1)), (.v (.int .i64 2))])]
def pr11 : AV := (.tup [(.v (.int .i64 3)), (.v (.int .i64 0))])
theorem pc11 : Runs Try.prog xf 135 px11 pr11 := Runs.execM (fr := fr) (fuel := 10000) mm0_ok 40 (by kernel_rfl)
def px14 : List AV := [(.sl 2 false [(.ag [(.v (.int .i64 3)), (.v (.int .i64 2))]), (.ag [(.v (.int .i64 1)), (.v (.int .i64 4))]), (.ag [(.v (.int .i64 5)), (.v (.int .i64 1))])]), (.sl 1 true [(.v (.int .i64 1)), (.v (.int .i64 0)), (.v (.int .i64 2))])]
def pr14 : AV := (.tup [(.sl 1 false [(.v (.int .i64 1)), (.v (.int .i64 4)), (.v (.int .i64 9))]), (.sl 1 false [(.v (.int .i64 5)), (.v (.int .i64 7)), (.v (.int .i64 10))]), (.v (.int .i64 0))])
theorem pc14 : Runs Try.prog xf 46 px14 pr14 := Runs.execM (fr := fr) (fuel := 10000) mm0_ok 40 (by kernel_rfl)
end Go.Proofs.Ytgcckkkejknnoaa
