/-
  Pieces of the run.
-/
import Derived.Test.YtliklcopmapfaaaDoorPcS0M
import Derived.KernelRfl
set_option linter.unusedSimpArgs false
set_option linter.unusedVariables false
namespace Go.Proofs.YtliklcopmapfaaaDoor
open Go Go.Proofs.Eng Go.RowKit
def px24 : List AV := [(.v (.int .i64 10)), (.sl 1 false [(.v (.int .i64 4)), (.v (.int .i64 4)), (.v (.int .i64 4)), (.v (.int .i64 4)), (.v (.int .i64 4))])]
def pr24 : AV := (.tup [(.v (.int .i64 3)), (.v (.int .i64 0))])
theorem pc24 : Runs Tryd.prog xf 23 px24 pr24 := Runs.execM (fr := fr) (fuel := 10000) mm1_ok 40 (by kernel_rfl)
end Go.Proofs.YtliklcopmapfaaaDoor
