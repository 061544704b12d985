/-
  Pieces of the run.
-/
import Derived.Test.YtelkpfionifjgaaPcKF
import Derived.KernelRfl
set_option linter.unusedSimpArgs false
set_option linter.unusedVariables false
namespace Go.Proofs.Ytelkpfionifjgaa
open Go Go.Proofs.Eng Go.RowKit
def px1 : List AV := [(.sl 1 true [(.sl 1 true [(.v (.int .i64 1)), (.v (.int .i64 1)), (.v (.int .i64 0))]), (.sl 1 true [(.v (.int .i64 0)), (.v (.int .i64 1)), (.v (.int .i64 1))]), (.sl 1 true [(.v (.int .i64 1)), (.v (.int .i64 0)), (.v (.int .i64 1))])])]
def pr1 : AV := (.tup [(.v (.int .i64 2)), (.v (.int .i64 0))])
theorem pc1 : Runs Try.prog xf 36 px1 pr1 := Runs.execM (fr := fr) (fuel := 10000) mm0_ok 40 (by kernel_rfl)
def px6 : List AV := [(.sl 1 false [(.sl 1 false [(.v (.int .i64 1)), (.v (.int .i64 1)), (.v (.int .i64 1))]), (.sl 1 false [(.v (.int .i64 1)), (.v (.int .i64 1)), (.v (.int .i64 1))]), (.sl 1 false [(.v (.int .i64 1)), (.v (.int .i64 1)), (.v (.int .i64 1))])]), (.sl 1 false [(.sl 1 false [(.v (.int .i64 1)), (.v (.int .i64 0)), (.v (.int .i64 2))]), (.sl 1 false [(.v (.int .i64 1)), (.v (.int .i64 2)), (.v (.int .i64 0))]), (.sl 1 false [(.v (.int .i64 2)), (.v (.int .i64 0)), (.v (.int .i64 1))]), (.sl 1 false [(.v (.int .i64 2)), (.v (.int .i64 1)), (.v (.int .i64 0))])])]
def pr6 : AV := (.v (.int .i64 0))
theorem pc6 : Runs Try.prog xf 75 px6 pr6 := Runs.execM (fr := fr) (fuel := 10000) mm0_ok 40 (by kernel_rfl)
def px10 : List AV := [(.sl 1 false [(.sl 1 false [(.v (.int .i64 0)), (.v (.int .i64 1)), (.v (.int .i64 1))]), (.sl 1 false [(.v (.int .i64 1)), (.v (.int .i64 0)), (.v (.int .i64 1))]), (.sl 1 false [(.v (.int .i64 1)), (.v (.int .i64 1)), (.v (.int .i64 0))])]), (.sl 1 false [(.sl 1 false [(.v (.int .i64 0)), (.v (.int .i64 2)), (.v (.int .i64 1))]), (.sl 1 false [(.v (.int .i64 1)), (.v (.int .i64 0)), (.v (.int .i64 2))]), (.sl 1 false [(.v (.int .i64 1)), (.v (.int .i64 2)), (.v (.int .i64 0))]), (.sl 1 false [(.v (.int .i64 2)), (.v (.int .i64 0)), (.v (.int .i64 1))]), (.sl 1 false [(.v (.int .i64 2)), (.v (.int .i64 1)), (.v (.int .i64 0))])])]
def pr10 : AV := (.v (.int .i64 1))
theorem pc10 : Runs Try.prog xf 75 px10 pr10 := Runs.execM (fr := fr) (fuel := 10000) mm0_ok 40 (by kernel_rfl)
def px13 : List AV := [(.sl 1 true [(.sl 1 true [(.v (.int .i64 1)), (.v (.int .i64 1)), (.v (.int .i64 0))]), (.sl 1 true [(.v (.int .i64 0)), (.v (.int .i64 1)), (.v (.int .i64 1))]), (.sl 1 true [(.v (.int .i64 1)), (.v (.int .i64 0)), (.v (.int .i64 1))])])]
def pr13 : AV := (.tup [(.v (.slice none 0 0)), (.v (.slice none 0 0)), (.v (.int .i64 13))])
theorem pc13 : Runs Try.prog xf 26 px13 pr13 := Runs.execM (fr := fr) (fuel := 10000) mm0_ok 40 (by kernel_rfl)
def px19 : List AV := [(.sl 1 true [(.sl 1 true [(.v (.int .i64 1)), (.v (.int .i64 1)), (.v (.int .i64 0))]), (.sl 1 true [(.v (.int .i64 0)), (.v (.int .i64 1)), (.v (.int .i64 1))]), (.sl 1 true [(.v (.int .i64 1)), (.v (.int .i64 0)), (.v (.int .i64 1))])])]
def pr19 : AV := (.tup [(.v (.int .i64 2)), (.v (.int .i64 0))])
theorem pc19 : Runs Try.prog xf 13 px19 pr19 := Runs.execM (fr := fr) (fuel := 10000) mm0_ok 40 (by kernel_rfl)
def px20 : List AV := [(.sl 1 true [(.sl 1 true [(.v (.int .i64 2)), (.v (.int .i64 1)), (.v (.int .i64 1))]), (.sl 1 true [(.v (.int .i64 1)), (.v (.int .i64 2)), (.v (.int .i64 1))]), (.sl 1 true [(.v (.int .i64 1)), (.v (.int .i64 1)), (.v (.int .i64 2))])])]
def pr20 : AV := (.tup [(.v (.int .i64 4)), (.v (.int .i64 0))])
theorem pc20 : Runs Try.prog xf 13 px20 pr20 := Runs.execM (fr := fr) (fuel := 10000) mm0_ok 40 (by kernel_rfl)
def px24 : List AV := [(.v (.int .i64 3)), (.sl 2 true [(.ag [(.sl 1 true [(.v (.int .i64 0)), (.v (.int .i64 1)), (.v (.int .i64 2))]), (.v (.int .i64 1))]), (.ag [(.sl 1 true [(.v (.int .i64 1)), (.v (.int .i64 2)), (.v (.int .i64 0))]), (.v (.int .i64 1))])])]
def pr24 : AV := (.tup [(.sl 1 false [(.sl 1 false [(.v (.int .i64 1)), (.v (.int .i64 1)), (.v (.int .i64 0))]), (.sl 1 false [(.v (.int .i64 0)), (.v (.int .i64 1)), (.v (.int .i64 1))]), (.sl 1 false [(.v (.int .i64 1)), (.v (.int .i64 0)), (.v (.int .i64 1))])]), (.v (.int .i64 0))])
theorem pc24 : Runs Try.prog xf 25 px24 pr24 := Runs.execM (fr := fr) (fuel := 10000) mm0_ok 40 (by kernel_rfl)
def px28 : List AV := [(.sl 1 true [(.sl 1 true [(.v (.int .i64 1)), (.v (.int .i64 1)), (.v (.int .i64 0))]), (.sl 1 true [(.v (.int .i64 0)), (.v (.int .i64 1)), (.v (.int .i64 1))]), (.sl 1 true [(.v (.int .i64 1)), (.v (.int .i64 0)), (.v (.int .i64 1))])]), (.sl 1 true [(.v (.int .i64 1)), (.v (.int .i64 2)), (.v (.int .i64 0))])]
def pr28 : AV := (.v (.int .i64 0))
theorem pc28 : Runs Try.prog xf 44 px28 pr28 := Runs.execM (fr := fr) (fuel := 10000) mm0_ok 40 (by kernel_rfl)
def px32 : List AV := [(.sl 1 true [(.sl 1 true [(.v (.int .i64 1)), (.v (.int .i64 0)), (.v (.int .i64 0))]), (.sl 1 true [(.v (.int .i64 1)), (.v (.int .i64 0)), (.v (.int .i64 0))]), (.sl 1 true [(.v (.int .i64 0)), (.v (.int .i64 1)), (.v (.int .i64 1))])])]
def pr32 : AV := (.tup [(.v (.slice none 0 0)), (.v (.int .i64 12))])
theorem pc32 : Runs Try.prog xf 33 px32 pr32 := Runs.execM (fr := fr) (fuel := 10000) mm0_ok 40 (by kernel_rfl)
end Go.Proofs.Ytelkpfionifjgaa
