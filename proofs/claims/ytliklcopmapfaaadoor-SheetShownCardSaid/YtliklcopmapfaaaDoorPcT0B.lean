/-
  Pieces of the run.
-/
import Derived.Test.YtliklcopmapfaaaDoorPcTF
import Derived.KernelRfl
set_option linter.unusedSimpArgs false
set_option linter.unusedVariables false
namespace Go.Proofs.YtliklcopmapfaaaDoor
open Go Go.Proofs.Eng Go.RowKit
def px1 : List AV := [(.v (.int .i64 10)), (.sl 1 false [(.v (.int .i64 5)), (.v (.int .i64 6)), (.v (.int .i64 4)), (.v (.int .i64 5)), (.v (.int .i64 3))])]
def pr1 : AV := (.tup [(.v (.int .i64 0)), (.v (.int .i64 0))])
theorem pc1 : Runs Tryd.prog xf 29 px1 pr1 := Runs.execM (fr := fr) (fuel := 10000) mm0_ok 40 (by kernel_rfl)
def px6 : List AV := [(.v (.int .i64 10)), (.sl 1 false [(.v (.int .i64 5)), (.v (.int .i64 6)), (.v (.int .i64 4)), (.v (.int .i64 5)), (.v (.int .i64 3))]), (.sl 1 true [(.sl 1 false [(.v (.int .i64 4))]), (.sl 1 false [(.v (.int .i64 2)), (.v (.int .i64 1))]), (.sl 1 false [(.v (.int .i64 3)), (.v (.int .i64 0))])])]
def pr6 : AV := (.tup [(.sl 1 false [(.v (.int .i64 0)), (.v (.int .i64 1)), (.v (.int .i64 1)), (.v (.int .i64 0)), (.v (.int .i64 2))]), (.v (.int .i64 0))])
theorem pc6 : Runs Tryd.prog xf 15 px6 pr6 := Runs.execM (fr := fr) (fuel := 10000) mm0_ok 40 (by kernel_rfl)
def px9 : List AV := [(.v (.int .i64 10)), (.sl 1 false [(.v (.int .i64 5)), (.v (.int .i64 6)), (.v (.int .i64 4)), (.v (.int .i64 5)), (.v (.int .i64 3))]), (.sl 1 false [(.v (.int .i64 0)), (.v (.int .i64 1)), (.v (.int .i64 1)), (.v (.int .i64 0)), (.v (.int .i64 2))]), (.v (.int .i64 4))]
def pr9 : AV := (.v (.int .i64 14))
theorem pc9 : Runs Tryd.prog xf 31 px9 pr9 := Runs.execM (fr := fr) (fuel := 10000) mm0_ok 40 (by kernel_rfl)
end Go.Proofs.YtliklcopmapfaaaDoor
