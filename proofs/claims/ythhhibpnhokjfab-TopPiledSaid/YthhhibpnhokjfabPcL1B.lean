/-
  Pieces of the run.
-/
import Derived.Test.YthhhibpnhokjfabPcL0M
import Derived.KernelRfl
set_option linter.unusedSimpArgs false
set_option linter.unusedVariables false
namespace Go.Proofs.Ythhhibpnhokjfab
open Go Go.Proofs.Eng Go.RowKit
def px75 : List AV := [(.ag [(.v (.int .i64 4)), (.sl 2 false [(.ag [(.v (.int .i64 3)), (.v (.int .i64 0))]), (.ag [(.v (.int .i64 0)), (.v (.int .i64 1))]), (.ag [(.v (.int .i64 1)), (.v (.int .i64 2))])])])]
def pr75 : AV := (.tup [(.sl 1 false [(.v (.int .i64 0)), (.v (.int .i64 1)), (.v (.int .i64 0)), (.v (.int .i64 1))]), (.v (.int .i64 0))])
theorem pc75 : RunsN Try.prog xf 9 px75 pr75 := RunsN.execM (fr := fr) (fuel := 10000) mm1_ok 40 (by kernel_rfl)
def px80 : List AV := [(.ag [(.v (.int .i64 4)), (.os 60 1 3 2 0 3)]), (.sl 1 true [(.v (.int .i64 2))]), (.v (.int .i64 3))]
def pr80 : AV := (.tup [(.sl 1 false [(.v (.int .i64 3)), (.v (.int .i64 0)), (.v (.int .i64 1)), (.v (.int .i64 2))]), (.v (.int .i64 0))])
def pq80 : QE := ⟨2000, 7, px80, [(9, 1, some ⟨29, 2, [(.ag [(.v (.int .i64 4)), (.os 60 1 3 2 0 3)])]⟩), (60, 1, some ⟨30, 2, [(.ag [(.v (.int .i64 3)), (.v (.int .i64 0))]), (.ag [(.v (.int .i64 0)), (.v (.int .i64 1))]), (.ag [(.v (.int .i64 1)), (.v (.int .i64 2))])]⟩), (1013, 1, some ⟨23, 1, [(.sl 1 false [(.v (.int .i64 0)), (.v (.int .i64 2))])]⟩)], pr80, [(9, 1, some ⟨29, 2, [(.ag [(.v (.int .i64 4)), (.os 60 1 3 2 0 3)])]⟩), (60, 1, some ⟨30, 2, [(.ag [(.v (.int .i64 3)), (.v (.int .i64 0))]), (.ag [(.v (.int .i64 0)), (.v (.int .i64 1))]), (.ag [(.v (.int .i64 1)), (.v (.int .i64 2))])]⟩), (1013, 1, some ⟨23, 1, [(.sl 1 false [(.v (.int .i64 0)), (.v (.int .i64 2))])]⟩), (3012, 1, some ⟨55, 1, [(.sl 1 true [(.v (.int .i64 3))])]⟩), (3025, 1, some ⟨54, 1, [(.ifc 55 (.sl 1 true [(.v (.int .i64 3))])), (.ifc 55 (.sl 1 false [(.v (.int .i64 3)), (.v (.int .i64 0))])), (.ifc 55 (.sl 1 false [(.v (.int .i64 3)), (.v (.int .i64 0)), (.v (.int .i64 1))])), (.ifc 55 (.sl 1 false [(.v (.int .i64 3)), (.v (.int .i64 0)), (.v (.int .i64 1)), (.v (.int .i64 2))]))]⟩), (3029, 4, some ⟨55, 1, []⟩), (4007, 1, some ⟨55, 1, [(.sl 1 false [(.v (.int .i64 3)), (.v (.int .i64 0))])]⟩), (5005, 1, none), (5007, 1, some ⟨55, 1, [(.sl 1 false [(.v (.int .i64 3)), (.v (.int .i64 0)), (.v (.int .i64 1))])]⟩), (6005, 1, none), (6007, 1, some ⟨55, 1, [(.sl 1 false [(.v (.int .i64 3)), (.v (.int .i64 0)), (.v (.int .i64 1)), (.v (.int .i64 2))])]⟩), (7005, 1, none)]⟩
theorem pc80 : RunsR Try.prog xf pq80.kb pq80.f pq80.args pq80.η pq80.r pq80.η' := RunsR.execM (fr := fr) (fuel := 10000) mm1_ok 40 (by kernel_rfl)
end Go.Proofs.Ythhhibpnhokjfab
