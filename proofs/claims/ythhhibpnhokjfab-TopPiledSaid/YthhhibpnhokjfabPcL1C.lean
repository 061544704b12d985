/-
  Pieces of the run.
-/
import Derived.Test.YthhhibpnhokjfabPcL0M
import Derived.KernelRfl
set_option linter.unusedSimpArgs false
set_option linter.unusedVariables false
namespace Go.Proofs.Ythhhibpnhokjfab
open Go Go.Proofs.Eng Go.RowKit
def px76 : List AV := [(.ag [(.v (.int .i64 4)), (.sl 2 false [(.ag [(.v (.int .i64 0)), (.v (.int .i64 3))]), (.ag [(.v (.int .i64 3)), (.v (.int .i64 2))]), (.ag [(.v (.int .i64 2)), (.v (.int .i64 1))])])])]
def pr76 : AV := (.tup [(.sl 1 false [(.v (.int .i64 1)), (.v (.int .i64 0)), (.v (.int .i64 1)), (.v (.int .i64 0))]), (.v (.int .i64 0))])
theorem pc76 : RunsN Try.prog xf 9 px76 pr76 := RunsN.execM (fr := fr) (fuel := 10000) mm1_ok 40 (by kernel_rfl)
def px81 : List AV := [(.ag [(.v (.int .i64 4)), (.os 60 1 3 2 0 3)]), (.sl 1 true [(.v (.int .i64 3))]), (.v (.int .i64 2))]
def pr81 : AV := (.tup [(.sl 1 false [(.v (.int .i64 2)), (.v (.int .i64 1)), (.v (.int .i64 0)), (.v (.int .i64 3))]), (.v (.int .i64 0))])
def pq81 : QE := ⟨2000, 7, px81, [(9, 1, some ⟨29, 2, [(.ag [(.v (.int .i64 4)), (.os 60 1 3 2 0 3)])]⟩), (60, 1, some ⟨30, 2, [(.ag [(.v (.int .i64 2)), (.v (.int .i64 1))]), (.ag [(.v (.int .i64 1)), (.v (.int .i64 0))]), (.ag [(.v (.int .i64 0)), (.v (.int .i64 3))])]⟩), (1013, 1, some ⟨23, 1, [(.sl 1 false [(.v (.int .i64 1)), (.v (.int .i64 3))])]⟩)], pr81, [(9, 1, some ⟨29, 2, [(.ag [(.v (.int .i64 4)), (.os 60 1 3 2 0 3)])]⟩), (60, 1, some ⟨30, 2, [(.ag [(.v (.int .i64 2)), (.v (.int .i64 1))]), (.ag [(.v (.int .i64 1)), (.v (.int .i64 0))]), (.ag [(.v (.int .i64 0)), (.v (.int .i64 3))])]⟩), (1013, 1, some ⟨23, 1, [(.sl 1 false [(.v (.int .i64 1)), (.v (.int .i64 3))])]⟩), (3012, 1, some ⟨55, 1, [(.sl 1 true [(.v (.int .i64 2))])]⟩), (3025, 1, some ⟨54, 1, [(.ifc 55 (.sl 1 true [(.v (.int .i64 2))])), (.ifc 55 (.sl 1 false [(.v (.int .i64 2)), (.v (.int .i64 1))])), (.ifc 55 (.sl 1 false [(.v (.int .i64 2)), (.v (.int .i64 1)), (.v (.int .i64 0))])), (.ifc 55 (.sl 1 false [(.v (.int .i64 2)), (.v (.int .i64 1)), (.v (.int .i64 0)), (.v (.int .i64 3))]))]⟩), (3029, 4, some ⟨55, 1, []⟩), (4007, 1, some ⟨55, 1, [(.sl 1 false [(.v (.int .i64 2)), (.v (.int .i64 1))])]⟩), (5005, 1, none), (5007, 1, some ⟨55, 1, [(.sl 1 false [(.v (.int .i64 2)), (.v (.int .i64 1)), (.v (.int .i64 0))])]⟩), (6005, 1, none), (6007, 1, some ⟨55, 1, [(.sl 1 false [(.v (.int .i64 2)), (.v (.int .i64 1)), (.v (.int .i64 0)), (.v (.int .i64 3))])]⟩), (7005, 1, none)]⟩
theorem pc81 : RunsR Try.prog xf pq81.kb pq81.f pq81.args pq81.η pq81.r pq81.η' := RunsR.execM (fr := fr) (fuel := 10000) mm1_ok 40 (by kernel_rfl)
end Go.Proofs.Ythhhibpnhokjfab
