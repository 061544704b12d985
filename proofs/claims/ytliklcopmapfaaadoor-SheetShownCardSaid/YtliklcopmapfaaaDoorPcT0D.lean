/-
  Pieces of the run.
-/
import Derived.Test.YtliklcopmapfaaaDoorPcTF
import Derived.KernelRfl
set_option linter.unusedSimpArgs false
set_option linter.unusedVariables false
namespace Go.Proofs.YtliklcopmapfaaaDoor
open Go Go.Proofs.Eng Go.RowKit
def px3 : List AV := [(.v (.int .i64 12)), (.sl 1 false [(.v (.int .i64 6)), (.v (.int .i64 3)), (.v (.int .i64 6)), (.v (.int .i64 1)), (.v (.int .i64 3)), (.v (.int .i64 3))])]
def pr3 : AV := (.tup [(.sl 1 false [(.v (.int .i64 0)), (.v (.int .i64 0)), (.v (.int .i64 1)), (.v (.int .i64 0)), (.v (.int .i64 1)), (.v (.int .i64 1))]), (.v (.int .i64 0))])
theorem pc3 : Runs Tryd.prog xf 25 px3 pr3 := Runs.execM (fr := fr) (fuel := 10000) mm0_ok 40 (by kernel_rfl)
def px4 : List AV := [(.v (.int .i64 10)), (.sl 1 false [(.v (.int .i64 4)), (.v (.int .i64 4)), (.v (.int .i64 4)), (.v (.int .i64 4)), (.v (.int .i64 4))]), (.v (.int .i64 2))]
def pr4 : AV := (.sl 1 false [])
theorem pc4 : Runs Tryd.prog xf 58 px4 pr4 := Runs.execM (fr := fr) (fuel := 10000) mm0_ok 40 (by kernel_rfl)
def px11 : List AV := [(.v (.int .i64 10)), (.sl 1 false [(.v (.int .i64 5)), (.v (.int .i64 6)), (.v (.int .i64 4)), (.v (.int .i64 5)), (.v (.int .i64 3))])]
def pr11 : AV := (.tup [(.sl 1 false [(.v (.int .i64 1)), (.v (.int .i64 0)), (.v (.int .i64 3)), (.v (.int .i64 2)), (.v (.int .i64 4))]), (.v (.int .i64 0))])
theorem pc11 : Runs Tryd.prog xf 18 px11 pr11 := Runs.execM (fr := fr) (fuel := 10000) mm0_ok 40 (by kernel_rfl)
end Go.Proofs.YtliklcopmapfaaaDoor
