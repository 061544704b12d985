/-
  Pieces of the run.
-/
import Derived.Test.YtkaoelhhabecnaaPcVF
import Derived.KernelRfl
set_option linter.unusedSimpArgs false
set_option linter.unusedVariables false
namespace Go.Proofs.Ytkaoelhhabecnaa
open Go Go.Proofs.Eng Go.RowKit
def px2 : List AV := [(.ag [(.sl 2 false [(.ag [(.v (.int .i64 2)), (.v (.int .i64 3))]), (.ag [(.v (.int .i64 1)), (.v (.int .i64 4))]), (.ag [(.v (.int .i64 2)), (.v (.int .i64 2))]), (.ag [(.v (.int .i64 3)), (.v (.int .i64 5))]), (.ag [(.v (.int .i64 1)), (.v (.int .i64 1))])]), (.v (.int .i64 7)), (.v (.int .i64 2))]), (.v (.int .i64 3))]
def pr2 : AV := (.tup [(.v (.int .i64 6)), (.v (.int .i64 0))])
theorem pc2 : Runs Try.prog xf 20 px2 pr2 := Runs.execM (fr := fr) (fuel := 10000) mm0_ok 40 (by kernel_rfl)
def px5 : List AV := [(.ag [(.sl 2 false [(.ag [(.v (.int .i64 2)), (.v (.int .i64 3))]), (.ag [(.v (.int .i64 1)), (.v (.int .i64 4))]), (.ag [(.v (.int .i64 2)), (.v (.int .i64 2))]), (.ag [(.v (.int .i64 3)), (.v (.int .i64 5))]), (.ag [(.v (.int .i64 1)), (.v (.int .i64 1))])]), (.v (.int .i64 7)), (.v (.int .i64 2))])]
def pr5 : AV := (.tup [(.sl 2 false [(.ag [(.v (.int .i64 0)), (.v (.int .i64 2))]), (.ag [(.v (.int .i64 2)), (.v (.int .i64 4))])]), (.v (.int .i64 0))])
theorem pc5 : Runs Try.prog xf 19 px5 pr5 := Runs.execM (fr := fr) (fuel := 10000) mm0_ok 40 (by kernel_rfl)
def px6 : List AV := [(.ag [(.sl 2 false [(.ag [(.v (.int .i64 2)), (.v (.int .i64 3))]), (.ag [(.v (.int .i64 1)), (.v (.int .i64 4))]), (.ag [(.v (.int .i64 2)), (.v (.int .i64 2))]), (.ag [(.v (.int .i64 3)), (.v (.int .i64 5))]), (.ag [(.v (.int .i64 1)), (.v (.int .i64 1))])]), (.v (.int .i64 7)), (.v (.int .i64 2))])]
def pr6 : AV := (.tup [(.sl 1 false [(.v (.int .i64 2)), (.v (.int .i64 4)), (.v (.int .i64 5))]), (.v (.int .i64 0))])
theorem pc6 : Runs Try.prog xf 9 px6 pr6 := Runs.execM (fr := fr) (fuel := 10000) mm0_ok 40 (by kernel_rfl)
end Go.Proofs.Ytkaoelhhabecnaa
