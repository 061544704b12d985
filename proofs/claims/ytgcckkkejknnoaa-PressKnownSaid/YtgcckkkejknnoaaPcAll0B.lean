/-
  Pieces of the run.
-/
import Derived.Test.YtgcckkkejknnoaaPcAllF
import Derived.KernelRfl
set_option linter.unusedSimpArgs false
set_option linter.unusedVariables false
namespace Go.Proofs.Ytgcckkkejknnoaa
open Go Go.Proofs.Eng Go.RowKit
def px1 : List AV := [(.sl 2 false [(.ag [(.v (.int .i64 3)), (.v (.int .i64 2))]), (.ag [(.v (.int .i64 1)), (.v (.int .i64 4))]), (.ag [(.v (.int .i64 5)), (.v (.int .i64 1))])])]
def pr1 : AV := (.tup [(.v (.int .i64 2)), (.v (.int .i64 0))])
theorem pc1 : Runs Try.prog xf 53 px1 pr1 := Runs.execM (fr := fr) (fuel := 10000) mm0_ok 40 (by kernel_rfl)
def px7 : List AV := [(.sl 2 false [(.ag [(.v (.int .i64 2)), (.v (.int .i64 2))]), (.ag [(.v (.int .i64 2)), (.v (.int .i64 2))])])]
def pr7 : AV := (.tup [(.v (.int .i64 2)), (.v (.int .i64 0))])
theorem pc7 : Runs Try.prog xf 53 px7 pr7 := Runs.execM (fr := fr) (fuel := 10000) mm0_ok 40 (by kernel_rfl)
def px12 : List AV := [(.sl 2 false [(.ag [(.v (.int .i64 3)), (.v (.int .i64 2))]), (.ag [(.v (.int .i64 1)), (.v (.int .i64 4))]), (.ag [(.v (.int .i64 5)), (.v (.int .i64 1))])]), (.sl 1 true [(.v (.int .i64 0)), (.v (.int .i64 1)), (.v (.int .i64 2))]), (.v (.int .i64 0)), (.v (.int .i64 3))]
def pr12 : AV := (.v (.int .i64 2))
theorem pc12 : Runs Try.prog xf 58 px12 pr12 := Runs.execM (fr := fr) (fuel := 10000) mm0_ok 40 (by kernel_rfl)
end Go.Proofs.Ytgcckkkejknnoaa
