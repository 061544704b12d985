/-
  Pieces of the run.
-/
import Derived.Test.YthhhibpnhokjfabPcL0M
import Derived.KernelRfl
set_option linter.unusedSimpArgs false
set_option linter.unusedVariables false
namespace Go.Proofs.Ythhhibpnhokjfab
open Go Go.Proofs.Eng Go.RowKit
def px77 : List AV := [(.ag [(.v (.int .i64 4)), (.sl 2 false [(.ag [(.v (.int .i64 2)), (.v (.int .i64 1))]), (.ag [(.v (.int .i64 1)), (.v (.int .i64 0))]), (.ag [(.v (.int .i64 0)), (.v (.int .i64 3))])])])]
def pr77 : AV := (.tup [(.sl 1 false [(.v (.int .i64 1)), (.v (.int .i64 0)), (.v (.int .i64 1)), (.v (.int .i64 0))]), (.v (.int .i64 0))])
theorem pc77 : RunsN Try.prog xf 9 px77 pr77 := RunsN.execM (fr := fr) (fuel := 10000) mm1_ok 40 (by kernel_rfl)
def px78 : List AV := [(.ag [(.v (.int .i64 4)), (.os 60 1 3 2 0 3)]), (.sl 1 true [(.v (.int .i64 1))]), (.v (.int .i64 0))]
def pr78 : AV := (.tup [(.sl 1 false [(.v (.int .i64 0)), (.v (.int .i64 3)), (.v (.int .i64 2)), (.v (.int .i64 1))]), (.v (.int .i64 0))])
def pq78 : QE := ⟨2000, 7, px78, [(9, 1, some ⟨29, 2, [(.ag [(.v (.int .i64 4)), (.os 60 1 3 2 0 3)])]⟩), (60, 1, some ⟨30, 2, [(.ag [(.v (.int .i64 0)), (.v (.int .i64 3))]), (.ag [(.v (.int .i64 3)), (.v (.int .i64 2))]), (.ag [(.v (.int .i64 2)), (.v (.int .i64 1))])]⟩), (1013, 1, some ⟨23, 1, [(.sl 1 false [(.v (.int .i64 1)), (.v (.int .i64 3))])]⟩)], pr78, [(9, 1, some ⟨29, 2, [(.ag [(.v (.int .i64 4)), (.os 60 1 3 2 0 3)])]⟩), (60, 1, some ⟨30, 2, [(.ag [(.v (.int .i64 0)), (.v (.int .i64 3))]), (.ag [(.v (.int .i64 3)), (.v (.int .i64 2))]), (.ag [(.v (.int .i64 2)), (.v (.int .i64 1))])]⟩), (1013, 1, some ⟨23, 1, [(.sl 1 false [(.v (.int .i64 1)), (.v (.int .i64 3))])]⟩), (3012, 1, some ⟨55, 1, [(.sl 1 true [(.v (.int .i64 0))])]⟩), (3025, 1, some ⟨54, 1, [(.ifc 55 (.sl 1 true [(.v (.int .i64 0))])), (.ifc 55 (.sl 1 false [(.v (.int .i64 0)), (.v (.int .i64 3))])), (.ifc 55 (.sl 1 false [(.v (.int .i64 0)), (.v (.int .i64 3)), (.v (.int .i64 2))])), (.ifc 55 (.sl 1 false [(.v (.int .i64 0)), (.v (.int .i64 3)), (.v (.int .i64 2)), (.v (.int .i64 1))]))]⟩), (3029, 4, some ⟨55, 1, []⟩), (4007, 1, some ⟨55, 1, [(.sl 1 false [(.v (.int .i64 0)), (.v (.int .i64 3))])]⟩), (5005, 1, none), (5007, 1, some ⟨55, 1, [(.sl 1 false [(.v (.int .i64 0)), (.v (.int .i64 3)), (.v (.int .i64 2))])]⟩), (6005, 1, none), (6007, 1, some ⟨55, 1, [(.sl 1 false [(.v (.int .i64 0)), (.v (.int .i64 3)), (.v (.int .i64 2)), (.v (.int .i64 1))])]⟩), (7005, 1, none)]⟩
theorem pc78 : RunsR Try.prog xf pq78.kb pq78.f pq78.args pq78.η pq78.r pq78.η' := RunsR.execM (fr := fr) (fuel := 10000) mm1_ok 40 (by kernel_rfl)
end Go.Proofs.Ythhhibpnhokjfab
