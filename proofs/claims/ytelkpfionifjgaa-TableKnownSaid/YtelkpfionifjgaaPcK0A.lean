/-
  Pieces of the run.
-/
import Derived.Test.YtelkpfionifjgaaPcKF
import Derived.KernelRfl
set_option linter.unusedSimpArgs false
set_option linter.unusedVariables false
namespace Go.Proofs.Ytelkpfionifjgaa
open Go Go.Proofs.Eng Go.RowKit
def px0 : List AV := [(.sl 1 true [(.sl 1 true [(.v (.int .i64 1)), (.v (.int .i64 1)), (.v (.int .i64 0))]), (.sl 1 true [(.v (.int .i64 0)), (.v (.int .i64 1)), (.v (.int .i64 1))]), (.sl 1 true [(.v (.int .i64 1)), (.v (.int .i64 0)), (.v (.int .i64 1))])])]
def pr0 : AV := (.tup [(.sl 2 false [(.ag [(.sl 1 false [(.v (.int .i64 0)), (.v (.int .i64 1)), (.v (.int .i64 2))]), (.v (.int .i64 1))]), (.ag [(.sl 1 false [(.v (.int .i64 1)), (.v (.int .i64 2)), (.v (.int .i64 0))]), (.v (.int .i64 1))])]), (.v (.int .i64 0))])
theorem pc0 : Runs Try.prog xf 14 px0 pr0 := Runs.execM (fr := fr) (fuel := 10000) mm0_ok 40 (by kernel_rfl)
def px7 : List AV := [(.sl 1 true [(.sl 1 true [(.v (.int .i64 1)), (.v (.int .i64 1)), (.v (.int .i64 0))]), (.sl 1 true [(.v (.int .i64 0)), (.v (.int .i64 1)), (.v (.int .i64 1))]), (.sl 1 true [(.v (.int .i64 1)), (.v (.int .i64 0)), (.v (.int .i64 1))])])]
def pr7 : AV := (.tup [(.sl 1 false [(.v (.int .i64 0)), (.v (.int .i64 1)), (.v (.int .i64 2))]), (.v (.int .i64 0))])
theorem pc7 : Runs Try.prog xf 33 px7 pr7 := Runs.execM (fr := fr) (fuel := 10000) mm0_ok 40 (by kernel_rfl)
def px8 : List AV := [(.sl 1 true [(.sl 1 true [(.v (.int .i64 1)), (.v (.int .i64 1)), (.v (.int .i64 0))]), (.sl 1 true [(.v (.int .i64 0)), (.v (.int .i64 1)), (.v (.int .i64 1))]), (.sl 1 true [(.v (.int .i64 1)), (.v (.int .i64 0)), (.v (.int .i64 1))])])]
def pr8 : AV := (.tup [(.v (.int .i64 2)), (.v (.int .i64 0))])
theorem pc8 : Runs Try.prog xf 34 px8 pr8 := Runs.execM (fr := fr) (fuel := 10000) mm0_ok 40 (by kernel_rfl)
def px12 : List AV := [(.sl 1 false [(.sl 1 false [(.v (.int .i64 0)), (.v (.int .i64 1)), (.v (.int .i64 1))]), (.sl 1 false [(.v (.int .i64 1)), (.v (.int .i64 1)), (.v (.int .i64 0))]), (.sl 1 false [(.v (.int .i64 1)), (.v (.int .i64 0)), (.v (.int .i64 1))])]), (.sl 1 false [(.sl 1 false [(.v (.int .i64 1)), (.v (.int .i64 0)), (.v (.int .i64 2))]), (.sl 1 false [(.v (.int .i64 1)), (.v (.int .i64 2)), (.v (.int .i64 0))]), (.sl 1 false [(.v (.int .i64 2)), (.v (.int .i64 0)), (.v (.int .i64 1))]), (.sl 1 false [(.v (.int .i64 2)), (.v (.int .i64 1)), (.v (.int .i64 0))])])]
def pr12 : AV := (.v (.int .i64 1))
theorem pc12 : Runs Try.prog xf 75 px12 pr12 := Runs.execM (fr := fr) (fuel := 10000) mm0_ok 40 (by kernel_rfl)
def px18 : List AV := [(.sl 1 false [(.sl 1 false [(.v (.int .i64 0)), (.v (.int .i64 0)), (.v (.int .i64 1))]), (.sl 1 false [(.v (.int .i64 1)), (.v (.int .i64 0)), (.v (.int .i64 0))]), (.sl 1 false [(.v (.int .i64 0)), (.v (.int .i64 1)), (.v (.int .i64 0))])])]
def pr18 : AV := (.sl 1 false [(.sl 1 false [(.v (.int .i64 2)), (.v (.int .i64 0)), (.v (.int .i64 1))])])
theorem pc18 : Runs Try.prog xf 56 px18 pr18 := Runs.execM (fr := fr) (fuel := 10000) mm0_ok 40 (by kernel_rfl)
def px22 : List AV := [(.sl 1 true [(.sl 1 true [(.v (.int .i64 1)), (.v (.int .i64 0)), (.v (.int .i64 0))]), (.sl 1 true [(.v (.int .i64 1)), (.v (.int .i64 0)), (.v (.int .i64 0))]), (.sl 1 true [(.v (.int .i64 0)), (.v (.int .i64 1)), (.v (.int .i64 1))])])]
def pr22 : AV := (.tup [(.v (.slice none 0 0)), (.v (.int .i64 17))])
theorem pc22 : Runs Try.prog xf 14 px22 pr22 := Runs.execM (fr := fr) (fuel := 10000) mm0_ok 40 (by kernel_rfl)
def px26 : List AV := [(.sl 1 true [(.sl 1 true [(.v (.int .i64 1)), (.v (.int .i64 0)), (.v (.int .i64 0))]), (.sl 1 true [(.v (.int .i64 1)), (.v (.int .i64 0)), (.v (.int .i64 0))]), (.sl 1 true [(.v (.int .i64 0)), (.v (.int .i64 1)), (.v (.int .i64 1))])]), (.sl 1 true [(.v (.int .i64 0)), (.v (.int .i64 2))]), (.sl 1 true [(.v (.int .i64 1)), (.v (.int .i64 2))])]
def pr26 : AV := (.v (.int .i64 14))
theorem pc26 : Runs Try.prog xf 35 px26 pr26 := Runs.execM (fr := fr) (fuel := 10000) mm0_ok 40 (by kernel_rfl)
def px31 : List AV := [(.v (.int .i64 3)), (.sl 2 true [(.ag [(.sl 1 true [(.v (.int .i64 0)), (.v (.int .i64 1)), (.v (.int .i64 2))]), (.v (.int .i64 10))])])]
def pr31 : AV := (.tup [(.v (.slice none 0 0)), (.v (.int .i64 15))])
theorem pc31 : Runs Try.prog xf 25 px31 pr31 := Runs.execM (fr := fr) (fuel := 10000) mm0_ok 40 (by kernel_rfl)
end Go.Proofs.Ytelkpfionifjgaa
