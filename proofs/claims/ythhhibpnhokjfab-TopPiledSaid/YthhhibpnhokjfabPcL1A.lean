/-
  Pieces of the run.
-/
import Derived.Test.YthhhibpnhokjfabPcL0M
import Derived.KernelRfl
set_option linter.unusedSimpArgs false
set_option linter.unusedVariables false
namespace Go.Proofs.Ythhhibpnhokjfab
open Go Go.Proofs.Eng Go.RowKit
def px74 : List AV := [(.ag [(.v (.int .i64 4)), (.sl 2 false [(.ag [(.v (.int .i64 1)), (.v (.int .i64 2))]), (.ag [(.v (.int .i64 2)), (.v (.int .i64 3))]), (.ag [(.v (.int .i64 3)), (.v (.int .i64 0))])])])]
def pr74 : AV := (.tup [(.sl 1 false [(.v (.int .i64 0)), (.v (.int .i64 1)), (.v (.int .i64 0)), (.v (.int .i64 1))]), (.v (.int .i64 0))])
theorem pc74 : RunsN Try.prog xf 9 px74 pr74 := RunsN.execM (fr := fr) (fuel := 10000) mm1_ok 40 (by kernel_rfl)
def px79 : List AV := [(.ag [(.v (.int .i64 4)), (.os 60 1 3 2 0 3)]), (.sl 1 true [(.v (.int .i64 0))]), (.v (.int .i64 1))]
def pr79 : AV := (.tup [(.sl 1 false [(.v (.int .i64 1)), (.v (.int .i64 2)), (.v (.int .i64 3)), (.v (.int .i64 0))]), (.v (.int .i64 0))])
def pq79 : QE := ⟨2000, 7, px79, [(9, 1, some ⟨29, 2, [(.ag [(.v (.int .i64 4)), (.os 60 1 3 2 0 3)])]⟩), (60, 1, some ⟨30, 2, [(.ag [(.v (.int .i64 1)), (.v (.int .i64 2))]), (.ag [(.v (.int .i64 2)), (.v (.int .i64 3))]), (.ag [(.v (.int .i64 3)), (.v (.int .i64 0))])]⟩), (1013, 1, some ⟨23, 1, [(.sl 1 false [(.v (.int .i64 0)), (.v (.int .i64 2))])]⟩)], pr79, [(9, 1, some ⟨29, 2, [(.ag [(.v (.int .i64 4)), (.os 60 1 3 2 0 3)])]⟩), (60, 1, some ⟨30, 2, [(.ag [(.v (.int .i64 1)), (.v (.int .i64 2))]), (.ag [(.v (.int .i64 2)), (.v (.int .i64 3))]), (.ag [(.v (.int .i64 3)), (.v (.int .i64 0))])]⟩), (1013, 1, some ⟨23, 1, [(.sl 1 false [(.v (.int .i64 0)), (.v (.int .i64 2))])]⟩), (3012, 1, some ⟨55, 1, [(.sl 1 true [(.v (.int .i64 1))])]⟩), (3025, 1, some ⟨54, 1, [(.ifc 55 (.sl 1 true [(.v (.int .i64 1))])), (.ifc 55 (.sl 1 false [(.v (.int .i64 1)), (.v (.int .i64 2))])), (.ifc 55 (.sl 1 false [(.v (.int .i64 1)), (.v (.int .i64 2)), (.v (.int .i64 3))])), (.ifc 55 (.sl 1 false [(.v (.int .i64 1)), (.v (.int .i64 2)), (.v (.int .i64 3)), (.v (.int .i64 0))]))]⟩), (3029, 4, some ⟨55, 1, []⟩), (4007, 1, some ⟨55, 1, [(.sl 1 false [(.v (.int .i64 1)), (.v (.int .i64 2))])]⟩), (5005, 1, none), (5007, 1, some ⟨55, 1, [(.sl 1 false [(.v (.int .i64 1)), (.v (.int .i64 2)), (.v (.int .i64 3))])]⟩), (6005, 1, none), (6007, 1, some ⟨55, 1, [(.sl 1 false [(.v (.int .i64 1)), (.v (.int .i64 2)), (.v (.int .i64 3)), (.v (.int .i64 0))])]⟩), (7005, 1, none)]⟩
theorem pc79 : RunsR Try.prog xf pq79.kb pq79.f pq79.args pq79.η pq79.r pq79.η' := RunsR.execM (fr := fr) (fuel := 10000) mm1_ok 40 (by kernel_rfl)
end Go.Proofs.Ythhhibpnhokjfab
