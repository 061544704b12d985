/-
  Pieces of the run.
-/
import Derived.Test.YtliklcopmapfaaaDoorPcTF
import Derived.KernelRfl
set_option linter.unusedSimpArgs false
set_option linter.unusedVariables false
namespace Go.Proofs.YtliklcopmapfaaaDoor
open Go Go.Proofs.Eng Go.RowKit
def px2 : List AV := [(.v (.int .i64 10)), (.sl 1 false [(.v (.int .i64 5)), (.v (.int .i64 6)), (.v (.int .i64 4)), (.v (.int .i64 5)), (.v (.int .i64 3))])]
def pr2 : AV := (.tup [(.v (.int .i64 3)), (.v (.int .i64 0))])
theorem pc2 : Runs Tryd.prog xf 23 px2 pr2 := Runs.execM (fr := fr) (fuel := 10000) mm0_ok 40 (by kernel_rfl)
def px5 : List AV := [(.v (.int .i64 10)), (.sl 1 false [(.v (.int .i64 5)), (.v (.int .i64 6)), (.v (.int .i64 4)), (.v (.int .i64 5)), (.v (.int .i64 3))]), (.os 27 1 5 1 0 5)]
def pr5 : AV := (.tup [(.sl 1 false [(.v (.int .i64 0)), (.v (.int .i64 1)), (.v (.int .i64 1)), (.v (.int .i64 0)), (.v (.int .i64 2))]), (.v (.int .i64 0))])
def pq5 : QE := ⟨1000, 20, px5, [(27, 1, some ⟨3, 1, [(.v (.int .i64 1)), (.v (.int .i64 0)), (.v (.int .i64 3)), (.v (.int .i64 2)), (.v (.int .i64 4))]⟩)], pr5, [(27, 1, some ⟨3, 1, [(.v (.int .i64 1)), (.v (.int .i64 0)), (.v (.int .i64 3)), (.v (.int .i64 2)), (.v (.int .i64 4))]⟩), (1010, 1, some ⟨64, 2, [(.ag [(.v (.int .i64 10)), (.os 2023 1 3 1 0 3)])]⟩), (1036, 1, some ⟨3, 1, [(.v (.int .i64 1)), (.v (.int .i64 0)), (.v (.int .i64 0)), (.v (.int .i64 1)), (.v (.int .i64 2))]⟩), (2023, 1, some ⟨3, 1, [(.v (.int .i64 0)), (.v (.int .i64 0)), (.v (.int .i64 7))]⟩)]⟩
theorem pc5 : RunsR Tryd.prog xf pq5.kb pq5.f pq5.args pq5.η pq5.r pq5.η' := RunsR.execM (fr := fr) (fuel := 10000) mm0_ok 40 (by kernel_rfl)
def px8 : List AV := [(.v (.int .i64 10)), (.sl 1 false [(.v (.int .i64 5)), (.v (.int .i64 6)), (.v (.int .i64 4)), (.v (.int .i64 5)), (.v (.int .i64 3))]), (.sl 1 false [(.v (.int .i64 0)), (.v (.int .i64 1)), (.v (.int .i64 1)), (.v (.int .i64 0)), (.v (.int .i64 2))]), (.v (.int .i64 0))]
def pr8 : AV := (.v (.int .i64 0))
theorem pc8 : Runs Tryd.prog xf 31 px8 pr8 := Runs.execM (fr := fr) (fuel := 10000) mm0_ok 40 (by kernel_rfl)
end Go.Proofs.YtliklcopmapfaaaDoor
