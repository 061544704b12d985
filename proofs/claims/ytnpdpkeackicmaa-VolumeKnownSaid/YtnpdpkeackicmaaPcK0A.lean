/-
  Pieces of the run.
-/
import Derived.Test.YtnpdpkeackicmaaPcKF
import Derived.KernelRfl
set_option linter.unusedSimpArgs false
set_option linter.unusedVariables false
namespace Go.Proofs.Ytnpdpkeackicmaa
open Go Go.Proofs.Eng Go.RowKit
def px0 : List AV := [(.ag [(.sl 2 false [(.ag [(.v (.int .i64 2)), (.v (.int .i64 3))]), (.ag [(.v (.int .i64 1)), (.v (.int .i64 4))]), (.ag [(.v (.int .i64 2)), (.v (.int .i64 2))]), (.ag [(.v (.int .i64 3)), (.v (.int .i64 5))]), (.ag [(.v (.int .i64 1)), (.v (.int .i64 1))])]), (.v (.int .i64 7)), (.v (.int .i64 2))]), (.v (.int .i64 1))]
def pr0 : AV := (.tup [(.v (.int .i64 15)), (.v (.int .i64 0))])
theorem pc0 : Runs Try.prog xf 27 px0 pr0 := Runs.execM (fr := fr) (fuel := 10000) mm0_ok 40 (by kernel_rfl)
def px13 : List AV := [(.ag [(.sl 2 false [(.ag [(.v (.int .i64 2)), (.v (.int .i64 3))]), (.ag [(.v (.int .i64 1)), (.v (.int .i64 4))]), (.ag [(.v (.int .i64 2)), (.v (.int .i64 2))]), (.ag [(.v (.int .i64 3)), (.v (.int .i64 5))]), (.ag [(.v (.int .i64 1)), (.v (.int .i64 1))])]), (.v (.int .i64 7)), (.v (.int .i64 2))]), (.v (.int .i64 4)), (.sl 2 false [(.ag [(.v (.int .i64 0)), (.v (.int .i64 2))]), (.ag [(.v (.int .i64 2)), (.v (.int .i64 4))])])]
def pr13 : AV := (.v (.int .i64 14))
theorem pc13 : Runs Try.prog xf 22 px13 pr13 := Runs.execM (fr := fr) (fuel := 10000) mm0_ok 40 (by kernel_rfl)
end Go.Proofs.Ytnpdpkeackicmaa
