/-
  Pieces of the run.
-/
import Derived.Test.YtkaoelhhabecnaaPcVF
import Derived.KernelRfl
set_option linter.unusedSimpArgs false
set_option linter.unusedVariables false
namespace Go.Proofs.Ytkaoelhhabecnaa
open Go Go.Proofs.Eng Go.RowKit
def px3 : List AV := [(.ag [(.sl 2 false [(.ag [(.v (.int .i64 2)), (.v (.int .i64 3))]), (.ag [(.v (.int .i64 1)), (.v (.int .i64 4))]), (.ag [(.v (.int .i64 2)), (.v (.int .i64 2))]), (.ag [(.v (.int .i64 3)), (.v (.int .i64 5))]), (.ag [(.v (.int .i64 1)), (.v (.int .i64 1))])]), (.v (.int .i64 7)), (.v (.int .i64 2))]), (.sl 1 true [(.v (.int .i64 1)), (.v (.int .i64 3)), (.v (.int .i64 5))])]
def pr3 : AV := (.v (.int .i64 0))
theorem pc3 : Runs Try.prog xf 32 px3 pr3 := Runs.execM (fr := fr) (fuel := 10000) mm0_ok 40 (by kernel_rfl)
def px4 : List AV := [(.ag [(.sl 2 false [(.ag [(.v (.int .i64 2)), (.v (.int .i64 3))]), (.ag [(.v (.int .i64 1)), (.v (.int .i64 4))]), (.ag [(.v (.int .i64 2)), (.v (.int .i64 2))]), (.ag [(.v (.int .i64 3)), (.v (.int .i64 5))]), (.ag [(.v (.int .i64 1)), (.v (.int .i64 1))])]), (.v (.int .i64 7)), (.v (.int .i64 2))]), (.sl 1 true [(.v (.int .i64 2)), (.v (.int .i64 4)), (.v (.int .i64 5))])]
def pr4 : AV := (.v (.int .i64 21))
theorem pc4 : Runs Try.prog xf 32 px4 pr4 := Runs.execM (fr := fr) (fuel := 10000) mm0_ok 40 (by kernel_rfl)
def px9 : List AV := [(.ag [(.sl 2 false [(.ag [(.v (.int .i64 2)), (.v (.int .i64 3))]), (.ag [(.v (.int .i64 1)), (.v (.int .i64 4))]), (.ag [(.v (.int .i64 2)), (.v (.int .i64 2))]), (.ag [(.v (.int .i64 3)), (.v (.int .i64 5))]), (.ag [(.v (.int .i64 1)), (.v (.int .i64 1))])]), (.v (.int .i64 7)), (.v (.int .i64 2))]), (.v (.int .i64 3)), (.sl 2 false [(.ag [(.v (.int .i64 0)), (.v (.int .i64 2))]), (.ag [(.v (.int .i64 2)), (.v (.int .i64 4))])])]
def pr9 : AV := (.v (.int .i64 0))
theorem pc9 : Runs Try.prog xf 10 px9 pr9 := Runs.execM (fr := fr) (fuel := 10000) mm0_ok 40 (by kernel_rfl)
end Go.Proofs.Ytkaoelhhabecnaa
