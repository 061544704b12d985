/-
  Pieces of the run.
-/
import Derived.Test.YtkaoelhhabecnaaPcVF
import Derived.KernelRfl
set_option linter.unusedSimpArgs false
set_option linter.unusedVariables false
namespace Go.Proofs.Ytkaoelhhabecnaa
open Go Go.Proofs.Eng Go.RowKit
def px0 : List AV := [(.ag [(.sl 2 false [(.ag [(.v (.int .i64 2)), (.v (.int .i64 3))]), (.ag [(.v (.int .i64 1)), (.v (.int .i64 4))]), (.ag [(.v (.int .i64 2)), (.v (.int .i64 2))]), (.ag [(.v (.int .i64 3)), (.v (.int .i64 5))]), (.ag [(.v (.int .i64 1)), (.v (.int .i64 1))])]), (.v (.int .i64 7)), (.v (.int .i64 2))])]
def pr0 : AV := (.tup [(.sl 1 false [(.v (.int .i64 1)), (.v (.int .i64 3)), (.v (.int .i64 5))]), (.v (.int .i64 0))])
theorem pc0 : Runs Try.prog xf 21 px0 pr0 := Runs.execM (fr := fr) (fuel := 10000) mm0_ok 40 (by kernel_rfl)
def px8 : List AV := [(.ag [(.sl 2 false [(.ag [(.v (.int .i64 2)), (.v (.int .i64 3))]), (.ag [(.v (.int .i64 1)), (.v (.int .i64 4))]), (.ag [(.v (.int .i64 2)), (.v (.int .i64 2))]), (.ag [(.v (.int .i64 3)), (.v (.int .i64 5))]), (.ag [(.v (.int .i64 1)), (.v (.int .i64 1))])]), (.v (.int .i64 7)), (.v (.int .i64 2))]), (.sl 1 true [(.v (.int .i64 2)), (.v (.int .i64 4)), (.v (.int .i64 5))])]
def pr8 : AV := (.tup [(.v (.int .i64 0)), (.v (.int .i64 13))])
theorem pc8 : Runs Try.prog xf 23 px8 pr8 := Runs.execM (fr := fr) (fuel := 10000) mm0_ok 40 (by kernel_rfl)
def px10 : List AV := [(.ag [(.sl 2 false [(.ag [(.v (.int .i64 2)), (.v (.int .i64 3))]), (.ag [(.v (.int .i64 1)), (.v (.int .i64 4))]), (.ag [(.v (.int .i64 2)), (.v (.int .i64 2))]), (.ag [(.v (.int .i64 3)), (.v (.int .i64 5))]), (.ag [(.v (.int .i64 1)), (.v (.int .i64 1))])]), (.v (.int .i64 7)), (.v (.int .i64 2))]), (.v (.int .i64 4)), (.sl 2 false [(.ag [(.v (.int .i64 0)), (.v (.int .i64 2))]), (.ag [(.v (.int .i64 2)), (.v (.int .i64 4))])])]
def pr10 : AV := (.v (.int .i64 14))
theorem pc10 : Runs Try.prog xf 10 px10 pr10 := Runs.execM (fr := fr) (fuel := 10000) mm0_ok 40 (by kernel_rfl)
end Go.Proofs.Ytkaoelhhabecnaa
