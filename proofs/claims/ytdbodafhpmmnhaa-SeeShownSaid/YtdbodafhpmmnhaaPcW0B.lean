/-
  Pieces of the run.
-/
import Derived.Test.YtdbodafhpmmnhaaPcWF
import Derived.KernelRfl
set_option linter.unusedSimpArgs false
set_option linter.unusedVariables false
namespace Go.Proofs.Ytdbodafhpmmnhaa
open Go Go.Proofs.Eng Go.RowKit
def px1 : List AV := [(.ag [(.v (.int .i64 4)), (.sl 2 false [(.ag [(.v (.int .i64 0)), (.v (.int .i64 1))]), (.ag [(.v (.int .i64 1)), (.v (.int .i64 0))]), (.ag [(.v (.int .i64 1)), (.v (.int .i64 2))]), (.ag [(.v (.int .i64 2)), (.v (.int .i64 3))]), (.ag [(.v (.int .i64 3)), (.v (.int .i64 2))])])]), (.os 5 1 4 1 0 4)]
def pr1 : AV := (.os 1025 1 14 1 0 14)
def pq1 : QE := ⟨1000, 40, px1, [(5, 1, some ⟨3, 1, [(.v (.int .i64 0)), (.v (.int .i64 1)), (.v (.int .i64 2)), (.v (.int .i64 3))]⟩)], pr1, [(5, 1, some ⟨3, 1, [(.v (.int .i64 0)), (.v (.int .i64 1)), (.v (.int .i64 2)), (.v (.int .i64 3))]⟩), (1012, 1, some ⟨73, 1, [(.sl 1 true [(.v (.int .i64 0))]), (.sl 1 true [(.v (.int .i64 1))]), (.sl 1 true [(.v (.int .i64 2))]), (.sl 1 true [(.v (.int .i64 3))])]⟩), (1025, 1, some ⟨72, 1, [(.ifc 73 (.sl 1 true [(.v (.int .i64 0))])), (.ifc 73 (.sl 1 true [(.v (.int .i64 1))])), (.ifc 73 (.sl 1 true [(.v (.int .i64 2))])), (.ifc 73 (.sl 1 true [(.v (.int .i64 3))])), (.ifc 73 (.sl 1 false [(.v (.int .i64 0)), (.v (.int .i64 1))])), (.ifc 93 (.ag [(.sl 1 false [(.v (.int .i64 0)), (.v (.int .i64 1))])])), (.ifc 73 (.sl 1 false [(.v (.int .i64 1)), (.v (.int .i64 0))])), (.ifc 73 (.sl 1 false [(.v (.int .i64 1)), (.v (.int .i64 2))])), (.ifc 73 (.sl 1 false [(.v (.int .i64 2)), (.v (.int .i64 3))])), (.ifc 93 (.ag [(.sl 1 false [(.v (.int .i64 2)), (.v (.int .i64 3))])])), (.ifc 73 (.sl 1 false [(.v (.int .i64 3)), (.v (.int .i64 2))])), (.ifc 73 (.sl 1 false [(.v (.int .i64 0)), (.v (.int .i64 1)), (.v (.int .i64 2))])), (.ifc 73 (.sl 1 false [(.v (.int .i64 1)), (.v (.int .i64 2)), (.v (.int .i64 3))])), (.ifc 73 (.sl 1 false [(.v (.int .i64 0)), (.v (.int .i64 1)), (.v (.int .i64 2)), (.v (.int .i64 3))]))]⟩), (1029, 4, some ⟨73, 1, []⟩)]⟩
theorem pc1 : RunsR Try.prog xf pq1.kb pq1.f pq1.args pq1.η pq1.r pq1.η' := RunsR.execM (fr := fr) (fuel := 10000) mm0_ok 40 (by kernel_rfl)
def px6 : List AV := [(.ag [(.v (.int .i64 4)), (.sl 2 false [(.ag [(.v (.int .i64 0)), (.v (.int .i64 1))]), (.ag [(.v (.int .i64 1)), (.v (.int .i64 0))]), (.ag [(.v (.int .i64 1)), (.v (.int .i64 2))]), (.ag [(.v (.int .i64 2)), (.v (.int .i64 3))]), (.ag [(.v (.int .i64 3)), (.v (.int .i64 2))])])]), (.sl 1 true [(.v (.int .i64 3))]), (.v (.int .i64 0))]
def pr6 : AV := (.tup [(.sl 1 false [(.v (.int .i64 0)), (.v (.int .i64 1)), (.v (.int .i64 2)), (.v (.int .i64 3))]), (.v (.int .i64 0))])
theorem pc6 : Runs Try.prog xf 19 px6 pr6 := Runs.execM (fr := fr) (fuel := 10000) mm0_ok 40 (by kernel_rfl)
def px9 : List AV := [(.ag [(.v (.int .i64 4)), (.sl 2 false [(.ag [(.v (.int .i64 0)), (.v (.int .i64 1))]), (.ag [(.v (.int .i64 1)), (.v (.int .i64 0))]), (.ag [(.v (.int .i64 1)), (.v (.int .i64 2))]), (.ag [(.v (.int .i64 2)), (.v (.int .i64 3))]), (.ag [(.v (.int .i64 3)), (.v (.int .i64 2))])])]), (.sl 1 true [(.v (.int .i64 1)), (.v (.int .i64 3))])]
def pr9 : AV := (.v (.int .i64 0))
theorem pc9 : Runs Try.prog xf 30 px9 pr9 := Runs.execM (fr := fr) (fuel := 10000) mm0_ok 40 (by kernel_rfl)
def px11 : List AV := [(.ag [(.v (.int .i64 3)), (.sl 2 false [(.ag [(.v (.int .i64 0)), (.v (.int .i64 1))]), (.ag [(.v (.int .i64 1)), (.v (.int .i64 2))]), (.ag [(.v (.int .i64 2)), (.v (.int .i64 0))])])]), (.sl 1 true [(.v (.int .i64 1)), (.v (.int .i64 2)), (.v (.int .i64 0))])]
def pr11 : AV := (.v (.int .i64 0))
theorem pc11 : Runs Try.prog xf 7 px11 pr11 := Runs.execM (fr := fr) (fuel := 10000) mm0_ok 40 (by kernel_rfl)
end Go.Proofs.Ytdbodafhpmmnhaa
