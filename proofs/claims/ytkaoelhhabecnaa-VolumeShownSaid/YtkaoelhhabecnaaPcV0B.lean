/-
  Pieces of the run.
-/
import Derived.Test.YtkaoelhhabecnaaPcVF
import Derived.KernelRfl
set_option linter.unusedSimpArgs false
set_option linter.unusedVariables false
namespace Go.Proofs.Ytkaoelhhabecnaa
open Go Go.Proofs.Eng Go.RowKit
def px1 : List AV := [(.ag [(.sl 2 false [(.ag [(.v (.int .i64 2)), (.v (.int .i64 3))]), (.ag [(.v (.int .i64 1)), (.v (.int .i64 4))]), (.ag [(.v (.int .i64 2)), (.v (.int .i64 2))]), (.ag [(.v (.int .i64 3)), (.v (.int .i64 5))]), (.ag [(.v (.int .i64 1)), (.v (.int .i64 1))])]), (.v (.int .i64 7)), (.v (.int .i64 2))])]
def pr1 : AV := (.tup [(.v (.int .i64 2)), (.v (.int .i64 0))])
theorem pc1 : Runs Try.prog xf 22 px1 pr1 := Runs.execM (fr := fr) (fuel := 10000) mm0_ok 40 (by kernel_rfl)
def px7 : List AV := [(.ag [(.sl 2 false [(.ag [(.v (.int .i64 2)), (.v (.int .i64 3))]), (.ag [(.v (.int .i64 1)), (.v (.int .i64 4))]), (.ag [(.v (.int .i64 2)), (.v (.int .i64 2))]), (.ag [(.v (.int .i64 3)), (.v (.int .i64 5))]), (.ag [(.v (.int .i64 1)), (.v (.int .i64 1))])]), (.v (.int .i64 7)), (.v (.int .i64 2))]), (.sl 1 true [(.v (.int .i64 2)), (.v (.int .i64 4)), (.v (.int .i64 5))])]
def pr7 : AV := (.v (.int .i64 0))
theorem pc7 : Runs Try.prog xf 31 px7 pr7 := Runs.execM (fr := fr) (fuel := 10000) mm0_ok 40 (by kernel_rfl)
end Go.Proofs.Ytkaoelhhabecnaa
