/-
  Pieces of the run.
-/
import Derived.Test.YtphcmmkmkdcohaaPcFk0M
import Derived.KernelRfl
set_option linter.unusedSimpArgs false
set_option linter.unusedVariables false
namespace Go.Proofs.Ytphcmmkmkdcohaa
open Go Go.Proofs.Eng Go.RowKit
def px88 : List AV := [(.ag [(.v (.int .i64 6)), (.sl 2 false [(.ag [(.v (.int .i64 0)), (.v (.int .i64 1))]), (.ag [(.v (.int .i64 0)), (.v (.int .i64 2))]), (.ag [(.v (.int .i64 0)), (.v (.int .i64 3))]), (.ag [(.v (.int .i64 3)), (.v (.int .i64 4))]), (.ag [(.v (.int .i64 3)), (.v (.int .i64 5))]), (.ag [(.v (.int .i64 4)), (.v (.int .i64 5))])])])]
def pr88 : AV := (.tup [(.sl 1 false [(.v (.int .i64 0))]), (.sl 1 false [(.v (.int .i64 1)), (.v (.int .i64 2))]), (.v (.int .i64 0))])
theorem pc88 : Runs Try.prog xf 17 px88 pr88 := Runs.execM (fr := fr) (fuel := 10000) mm1_ok 40 (by kernel_rfl)
def px93 : List AV := [(.ag [(.v (.int .i64 3)), (.sl 2 false [(.ag [(.v (.int .i64 0)), (.v (.int .i64 1))]), (.ag [(.v (.int .i64 0)), (.v (.int .i64 2))]), (.ag [(.v (.int .i64 1)), (.v (.int .i64 2))])])])]
def pr93 : AV := (.tup [(.sl 1 false [(.sl 1 false [(.v (.int .i64 0)), (.v (.int .i64 1)), (.v (.int .i64 2))])]), (.v (.int .i64 0))])
theorem pc93 : Runs Try.prog xf 16 px93 pr93 := Runs.execM (fr := fr) (fuel := 10000) mm1_ok 40 (by kernel_rfl)
end Go.Proofs.Ytphcmmkmkdcohaa
